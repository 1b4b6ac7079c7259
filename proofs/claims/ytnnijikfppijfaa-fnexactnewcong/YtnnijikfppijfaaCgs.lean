/-
Contracts of functions of this seat.
-/
import Derived.Test.YtnnijikfppijfaaRows
import Derived.WalkKit
import Derived.ProofKit
import Derived.OpenShut
import Derived.Test.YtnnijikfppijfaaCgv
namespace Go.Proofs.Ytnnijikfppijfaa
open Go.ChangeShapes Go.WideShapes Go.ChangeAt Go.RowKit
set_option linter.unusedVariables false
set_option maxRecDepth 100000
theorem l14Min_walk (a b : Int) (w : World) : Calls Try.prog 35 #[.int .i64 a, .int .i64 b] w fun e w' => e = .returned (.int .i64 (min a b)) ∧ w' = w := by
  by_cases h : a < b
  · rw [show min a b = a by omega]
    go_enter Try.func35, Try.ntmps35
    go_wp2
    go_ret
    exact ⟨rfl, rfl⟩
  · rw [show min a b = b by omega]
    go_enter Try.func35, Try.ntmps35
    go_wp2
    go_ret
    exact ⟨rfl, rfl⟩
theorem l14Max_walk (a b : Int) (w : World) : Calls Try.prog 36 #[.int .i64 a, .int .i64 b] w fun e w' => e = .returned (.int .i64 (max a b)) ∧ w' = w := by
  by_cases h : b < a
  · rw [show max a b = a by omega]
    go_enter Try.func36, Try.ntmps36
    go_wp2
    go_ret
    exact ⟨rfl, rfl⟩
  · rw [show max a b = b by omega]
    go_enter Try.func36, Try.ntmps36
    go_wp2
    go_ret
    exact ⟨rfl, rfl⟩
def fiB (m : Int) : Int := min (4 * m) (max 4380 (2 * m))
theorem fiB_bd {m : Int} (h0 : 1 ≤ m) (h1 : m ≤ 65535) : m ≤ fiB m ∧ fiB m ≤ 1073741824 := by unfold fiB; omega
set_option maxHeartbeats 4000000 in
theorem specCongMss_bad (m c t n a : Int) (h : (cgB m c t n && inB a 1 m) = false) : ExCCong 16 #[.agg #[.int .i64 m, .int .i64 c, .int .i64 t, .int .i64 n], .int .i64 a] 0 0 0 0 1 := by
  intro w
  have CB := hide (fun W => l14OK_walk m c t n W)
  have CI := hide (fun W => In_walk a 1 m W)
  cases hr : cgB m c t n with
  | false =>
    rw [hr] at CB
    clear h hr
    have HB := hide (Bx.start w #[.int .i64 m, .int .i64 c, .int .i64 t, .int .i64 n] #[.int .i64 0, .int .i64 0, .int .i64 0, .int .i64 0] 44)
    go_enter Try.func16, Try.ntmps16
    go_wp2_with fail
    generalize (w.alloc (.cells #[.int .i64 m, .int .i64 c, .int .i64 t, .int .i64 n] 44)).alloc (.cells #[.int .i64 0, .int .i64 0, .int .i64 0, .int .i64 0] 44) = W at *
    refine (CB.out _).mono ?_
    rintro e w1 ⟨rfl, hb1⟩
    have HB1 := hide (HB.out.next hb1)
    clear HB hb1
    have k0 := HB1.out.2.1.cell 0 _ rfl; have k1 := HB1.out.2.1.cell 1 _ rfl; have k2 := HB1.out.2.1.cell 2 _ rfl; have k3 := HB1.out.2.1.cell 3 _ rfl; have r0 := HB1.out.2.2.cell 0 _ rfl; have r1 := HB1.out.2.2.cell 1 _ rfl; have r2 := HB1.out.2.2.cell 2 _ rfl; have r3 := HB1.out.2.2.cell 3 _ rfl
    have kf := HB1.out.2.1.frozen; have rf := HB1.out.2.2.frozen
    go_wp2_with fail
    refine Bx.four (P := fun X => bodyPost Try.prog Try.f16 _ _ _ X) (HB1.out) ?_
    intro W9 h9
    have r0 := h9.2.2.cell 0 _ rfl; have r1 := h9.2.2.cell 1 _ rfl; have r2 := h9.2.2.cell 2 _ rfl; have r3 := h9.2.2.cell 3 _ rfl
    exact bodyPost_ret (v := .tuple #[.agg #[.int .i64 (0), .int .i64 (0), .int .i64 (0), .int .i64 (0)], .int .i64 1]) (by simp [results, Try.results16, go_sem, r0, r1, r2, r3]) rfl ⟨rfl, h9.1⟩
  | true =>
    have hm : inB a 1 m = false := by rw [hr] at h; simpa using h
    rw [hr] at CB
    rw [hm] at CI
    clear h hr hm
    have HB := hide (Bx.start w #[.int .i64 m, .int .i64 c, .int .i64 t, .int .i64 n] #[.int .i64 0, .int .i64 0, .int .i64 0, .int .i64 0] 44)
    go_enter Try.func16, Try.ntmps16
    go_wp2_with fail
    generalize (w.alloc (.cells #[.int .i64 m, .int .i64 c, .int .i64 t, .int .i64 n] 44)).alloc (.cells #[.int .i64 0, .int .i64 0, .int .i64 0, .int .i64 0] 44) = W at *
    refine (CB.out _).mono ?_
    rintro e w1 ⟨rfl, hb1⟩
    have HB1 := hide (HB.out.next hb1)
    clear HB hb1
    have k0 := HB1.out.2.1.cell 0 _ rfl; have k1 := HB1.out.2.1.cell 1 _ rfl; have k2 := HB1.out.2.1.cell 2 _ rfl; have k3 := HB1.out.2.1.cell 3 _ rfl; have r0 := HB1.out.2.2.cell 0 _ rfl; have r1 := HB1.out.2.2.cell 1 _ rfl; have r2 := HB1.out.2.2.cell 2 _ rfl; have r3 := HB1.out.2.2.cell 3 _ rfl
    have kf := HB1.out.2.1.frozen; have rf := HB1.out.2.2.frozen
    go_wp2_with fail
    refine (CI.out _).mono ?_
    rintro e w2 ⟨rfl, rfl⟩
    go_wp2_with fail
    refine Bx.four (P := fun X => bodyPost Try.prog Try.f16 _ _ _ X) (HB1.out) ?_
    intro W9 h9
    have r0 := h9.2.2.cell 0 _ rfl; have r1 := h9.2.2.cell 1 _ rfl; have r2 := h9.2.2.cell 2 _ rfl; have r3 := h9.2.2.cell 3 _ rfl
    exact bodyPost_ret (v := .tuple #[.agg #[.int .i64 (0), .int .i64 (0), .int .i64 (0), .int .i64 (0)], .int .i64 1]) (by simp [results, Try.results16, go_sem, r0, r1, r2, r3]) rfl ⟨rfl, h9.1⟩
set_option maxHeartbeats 4000000 in
theorem specMss_ok (m c t n a : Int) (h : cgB m c t n = true) (ha : inB a 1 m = true) : ExCCong 16 #[.agg #[.int .i64 m, .int .i64 c, .int .i64 t, .int .i64 n], .int .i64 a] (a) (c) (t) (n) 0 := by
  intro w
  have CB := hide (fun W => l14OK_walk m c t n W)
  have CI := hide (fun W => In_walk a 1 m W)
  rw [ha] at CI
  obtain ⟨a0, a1⟩ := inB_iff.1 ha
  obtain ⟨⟨m0, m1⟩, ⟨c0, c1⟩, ⟨t0, t1⟩, ⟨n0, n1⟩⟩ := cgB_iff.1 h
  rw [h] at CB
  clear h ha
  have HB := hide (Bx.start w #[.int .i64 m, .int .i64 c, .int .i64 t, .int .i64 n] #[.int .i64 0, .int .i64 0, .int .i64 0, .int .i64 0] 44)
  go_enter Try.func16, Try.ntmps16
  go_wp2_with fail
  generalize (w.alloc (.cells #[.int .i64 m, .int .i64 c, .int .i64 t, .int .i64 n] 44)).alloc (.cells #[.int .i64 0, .int .i64 0, .int .i64 0, .int .i64 0] 44) = W at *
  refine (CB.out _).mono ?_
  rintro e w1 ⟨rfl, hb1⟩
  have HB1 := hide (HB.out.next hb1)
  clear HB hb1
  have k0 := HB1.out.2.1.cell 0 _ rfl; have k1 := HB1.out.2.1.cell 1 _ rfl; have k2 := HB1.out.2.1.cell 2 _ rfl; have k3 := HB1.out.2.1.cell 3 _ rfl; have r0 := HB1.out.2.2.cell 0 _ rfl; have r1 := HB1.out.2.2.cell 1 _ rfl; have r2 := HB1.out.2.2.cell 2 _ rfl; have r3 := HB1.out.2.2.cell 3 _ rfl
  have kf := HB1.out.2.1.frozen; have rf := HB1.out.2.2.frozen
  go_wp2_with fail
  refine (CI.out _).mono ?_
  rintro e w2 ⟨rfl, rfl⟩
  go_wp2_with fail
  refine Bx.four (P := fun X => bodyPost Try.prog Try.f16 _ _ _ X) (HB1.out.put 0 (.int .i64 a)) ?_
  intro W9 h9
  have r0 := h9.2.2.cell 0 _ rfl; have r1 := h9.2.2.cell 1 _ rfl; have r2 := h9.2.2.cell 2 _ rfl; have r3 := h9.2.2.cell 3 _ rfl
  exact bodyPost_ret (v := .tuple #[.agg #[.int .i64 (a), .int .i64 (c), .int .i64 (t), .int .i64 (n)], .int .i64 0]) (by simp [results, Try.results16, go_sem, r0, r1, r2, r3]) rfl ⟨rfl, h9.1⟩
theorem specNew_bad (a : Int) (h : inB a 1 65535 = false) : ExCCong 20 #[.int .i64 a] 0 0 0 0 1 := by
  intro w
  have CI := hide (fun W => In_walk a 1 65535 W)
  rw [h] at CI
  clear h
  have HB := hide (BoxV.start w #[.int .i64 0, .int .i64 0, .int .i64 0, .int .i64 0] 44)
  go_enter Try.func20, Try.ntmps20
  go_wp2_with fail
  generalize w.alloc (.cells #[.int .i64 0, .int .i64 0, .int .i64 0, .int .i64 0] 44) = W at *
  refine (CI.out _).mono ?_
  rintro e w2 ⟨rfl, rfl⟩
  have r0 := HB.out.cell 0 _ rfl; have r1 := HB.out.cell 1 _ rfl; have r2 := HB.out.cell 2 _ rfl; have r3 := HB.out.cell 3 _ rfl
  have rf : ∀ o, w2.frozen? ⟨w.heap.size, o, none⟩ = false := fun o => frozen_of_row _ _ o _ _ HB.out.2.2
  go_wp2_with fail
  refine BoxV.four (P := fun X => bodyPost Try.prog Try.f20 _ _ _ X) HB.out ?_
  intro W9 h9
  have r0 := h9.cell 0 _ rfl; have r1 := h9.cell 1 _ rfl; have r2 := h9.cell 2 _ rfl; have r3 := h9.cell 3 _ rfl
  exact bodyPost_ret (v := .tuple #[.agg #[.int .i64 0, .int .i64 0, .int .i64 0, .int .i64 0], .int .i64 1]) (by simp [results, Try.results20, go_sem, r0, r1, r2, r3]) rfl ⟨rfl, h9.1⟩
set_option maxHeartbeats 4000000 in
theorem specNew_ok (a : Int) (h : inB a 1 65535 = true) : ExCCong 20 #[.int .i64 a] a (fiB a) 1073741824 0 0 := by
  intro w
  have CI := hide (fun W => In_walk a 1 65535 W)
  rw [h] at CI
  obtain ⟨a0, a1⟩ := inB_iff.1 h
  have E : Hid (min (4 * a) (max 4380 (2 * a)) = fiB a) := hide rfl
  clear h
  have HB := hide (BoxV.start w #[.int .i64 0, .int .i64 0, .int .i64 0, .int .i64 0] 44)
  go_enter Try.func20, Try.ntmps20
  go_wp2_with fail
  generalize w.alloc (.cells #[.int .i64 0, .int .i64 0, .int .i64 0, .int .i64 0] 44) = W at *
  refine (CI.out _).mono ?_
  rintro e w2 ⟨rfl, rfl⟩
  have r0 := HB.out.cell 0 _ rfl; have r1 := HB.out.cell 1 _ rfl; have r2 := HB.out.cell 2 _ rfl; have r3 := HB.out.cell 3 _ rfl
  have rf : ∀ o, w2.frozen? ⟨w.heap.size, o, none⟩ = false := fun o => frozen_of_row _ _ o _ _ HB.out.2.2
  go_wp2_with (first | (go_at_call 35; refine (l14Min_walk _ _ _).mono ?_; rintro e w3 ⟨rfl, rfl⟩) | (go_at_call 36; refine (l14Max_walk _ _ _).mono ?_; rintro e w3 ⟨rfl, rfl⟩))
  refine BoxV.four (P := fun X => bodyPost Try.prog Try.f20 _ _ _ X) HB.out ?_
  intro W9 h9
  have r0 := h9.cell 0 _ rfl; have r1 := h9.cell 1 _ rfl; have r2 := h9.cell 2 _ rfl; have r3 := h9.cell 3 _ rfl
  exact bodyPost_ret (v := .tuple #[.agg #[.int .i64 a, .int .i64 (min (4 * a) (max 4380 (2 * a))), .int .i64 1073741824, .int .i64 0], .int .i64 0]) (by simp [results, Try.results20, go_sem, r0, r1, r2, r3]) rfl ⟨ret_four rfl (i64_eq E.out) rfl rfl rfl, h9.1⟩
end Go.Proofs.Ytnnijikfppijfaa
