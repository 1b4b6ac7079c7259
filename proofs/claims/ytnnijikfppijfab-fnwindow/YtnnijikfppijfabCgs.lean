/-
Contracts of functions of this seat.
-/
import Derived.Test.YtnnijikfppijfabRows
import Derived.WalkKit
import Derived.ProofKit
import Derived.OpenShut
import Derived.Test.YtnnijikfppijfabCgv
namespace Go.Proofs.Ytnnijikfppijfab
open Go.ChangeShapes Go.WideShapes Go.ChangeAt Go.RowKit
set_option linter.unusedVariables false
set_option maxRecDepth 100000
theorem l14Min_walk (a b : Int) (w : World) : Calls Try.prog 32 #[.int .i64 a, .int .i64 b] w fun e w' => e = .returned (.int .i64 (min a b)) ∧ w' = w := by
  by_cases h : a < b
  · rw [show min a b = a by omega]
    go_enter Try.func32, Try.ntmps32
    go_wp2
    go_ret
    exact ⟨rfl, rfl⟩
  · rw [show min a b = b by omega]
    go_enter Try.func32, Try.ntmps32
    go_wp2
    go_ret
    exact ⟨rfl, rfl⟩
theorem l14Max_walk (a b : Int) (w : World) : Calls Try.prog 35 #[.int .i64 a, .int .i64 b] w fun e w' => e = .returned (.int .i64 (max a b)) ∧ w' = w := by
  by_cases h : b < a
  · rw [show max a b = a by omega]
    go_enter Try.func35, Try.ntmps35
    go_wp2
    go_ret
    exact ⟨rfl, rfl⟩
  · rw [show max a b = b by omega]
    go_enter Try.func35, Try.ntmps35
    go_wp2
    go_ret
    exact ⟨rfl, rfl⟩
def fiB (m : Int) : Int := min (4 * m) (max 4380 (2 * m))
theorem fiB_bd {m : Int} (h0 : 1 ≤ m) (h1 : m ≤ 65535) : m ≤ fiB m ∧ fiB m ≤ 1073741824 := by unfold fiB; omega
set_option maxHeartbeats 4000000 in
theorem specCongAck_bad (m c t n a : Int) (h : (cgB m c t n && inB a 1 1073741824) = false) : ExCCong 13 #[.agg #[.int .i64 m, .int .i64 c, .int .i64 t, .int .i64 n], .int .i64 a] 0 0 0 0 1 := by
  intro w
  have CB := hide (fun W => l14OK_walk m c t n W)
  have CI := hide (fun W => In_walk a 1 1073741824 W)
  cases hr : cgB m c t n with
  | false =>
    rw [hr] at CB
    clear h hr
    have HB := hide (Bx.start w #[.int .i64 m, .int .i64 c, .int .i64 t, .int .i64 n] #[.int .i64 0, .int .i64 0, .int .i64 0, .int .i64 0] 32)
    go_enter Try.func13, Try.ntmps13
    go_wp2_with fail
    generalize (w.alloc (.cells #[.int .i64 m, .int .i64 c, .int .i64 t, .int .i64 n] 32)).alloc (.cells #[.int .i64 0, .int .i64 0, .int .i64 0, .int .i64 0] 32) = W at *
    refine (CB.out _).mono ?_
    rintro e w1 ⟨rfl, hb1⟩
    have HB1 := hide (HB.out.next hb1)
    clear HB hb1
    have k0 := HB1.out.2.1.cell 0 _ rfl; have k1 := HB1.out.2.1.cell 1 _ rfl; have k2 := HB1.out.2.1.cell 2 _ rfl; have k3 := HB1.out.2.1.cell 3 _ rfl; have r0 := HB1.out.2.2.cell 0 _ rfl; have r1 := HB1.out.2.2.cell 1 _ rfl; have r2 := HB1.out.2.2.cell 2 _ rfl; have r3 := HB1.out.2.2.cell 3 _ rfl
    have kf := HB1.out.2.1.frozen; have rf := HB1.out.2.2.frozen
    go_wp2_with fail
    refine Bx.four (P := fun X => bodyPost Try.prog Try.f13 _ _ _ X) (HB1.out) ?_
    intro W9 h9
    have r0 := h9.2.2.cell 0 _ rfl; have r1 := h9.2.2.cell 1 _ rfl; have r2 := h9.2.2.cell 2 _ rfl; have r3 := h9.2.2.cell 3 _ rfl
    exact bodyPost_ret (v := .tuple #[.agg #[.int .i64 (0), .int .i64 (0), .int .i64 (0), .int .i64 (0)], .int .i64 1]) (by simp [results, Try.results13, go_sem, r0, r1, r2, r3]) rfl ⟨rfl, h9.1⟩
  | true =>
    have hm : inB a 1 1073741824 = false := by rw [hr] at h; simpa using h
    rw [hr] at CB
    rw [hm] at CI
    clear h hr hm
    have HB := hide (Bx.start w #[.int .i64 m, .int .i64 c, .int .i64 t, .int .i64 n] #[.int .i64 0, .int .i64 0, .int .i64 0, .int .i64 0] 32)
    go_enter Try.func13, Try.ntmps13
    go_wp2_with fail
    generalize (w.alloc (.cells #[.int .i64 m, .int .i64 c, .int .i64 t, .int .i64 n] 32)).alloc (.cells #[.int .i64 0, .int .i64 0, .int .i64 0, .int .i64 0] 32) = W at *
    refine (CB.out _).mono ?_
    rintro e w1 ⟨rfl, hb1⟩
    have HB1 := hide (HB.out.next hb1)
    clear HB hb1
    have k0 := HB1.out.2.1.cell 0 _ rfl; have k1 := HB1.out.2.1.cell 1 _ rfl; have k2 := HB1.out.2.1.cell 2 _ rfl; have k3 := HB1.out.2.1.cell 3 _ rfl; have r0 := HB1.out.2.2.cell 0 _ rfl; have r1 := HB1.out.2.2.cell 1 _ rfl; have r2 := HB1.out.2.2.cell 2 _ rfl; have r3 := HB1.out.2.2.cell 3 _ rfl
    have kf := HB1.out.2.1.frozen; have rf := HB1.out.2.2.frozen
    go_wp2_with fail
    refine (CI.out _).mono ?_
    rintro e w2 ⟨rfl, rfl⟩
    go_wp2_with fail
    refine Bx.four (P := fun X => bodyPost Try.prog Try.f13 _ _ _ X) (HB1.out) ?_
    intro W9 h9
    have r0 := h9.2.2.cell 0 _ rfl; have r1 := h9.2.2.cell 1 _ rfl; have r2 := h9.2.2.cell 2 _ rfl; have r3 := h9.2.2.cell 3 _ rfl
    exact bodyPost_ret (v := .tuple #[.agg #[.int .i64 (0), .int .i64 (0), .int .i64 (0), .int .i64 (0)], .int .i64 1]) (by simp [results, Try.results13, go_sem, r0, r1, r2, r3]) rfl ⟨rfl, h9.1⟩
set_option maxHeartbeats 4000000 in
theorem specAck_fast (m c t n a : Int) (h : cgB m c t n = true) (ha : inB a 1 1073741824 = true) (hf : c < t) : ExCCong 13 #[.agg #[.int .i64 m, .int .i64 c, .int .i64 t, .int .i64 n], .int .i64 a] (m) (min (c + min a m) 1073741824) (t) (n) 0 := by
  intro w
  have CB := hide (fun W => l14OK_walk m c t n W)
  have CI := hide (fun W => In_walk a 1 1073741824 W)
  rw [ha] at CI
  obtain ⟨a0, a1⟩ := inB_iff.1 ha
  obtain ⟨⟨m0, m1⟩, ⟨c0, c1⟩, ⟨t0, t1⟩, ⟨n0, n1⟩⟩ := cgB_iff.1 h
  rw [h] at CB
  clear h ha
  have HB := hide (Bx.start w #[.int .i64 m, .int .i64 c, .int .i64 t, .int .i64 n] #[.int .i64 0, .int .i64 0, .int .i64 0, .int .i64 0] 32)
  go_enter Try.func13, Try.ntmps13
  go_wp2_with fail
  generalize (w.alloc (.cells #[.int .i64 m, .int .i64 c, .int .i64 t, .int .i64 n] 32)).alloc (.cells #[.int .i64 0, .int .i64 0, .int .i64 0, .int .i64 0] 32) = W at *
  refine (CB.out _).mono ?_
  rintro e w1 ⟨rfl, hb1⟩
  have HB1 := hide (HB.out.next hb1)
  clear HB hb1
  have k0 := HB1.out.2.1.cell 0 _ rfl; have k1 := HB1.out.2.1.cell 1 _ rfl; have k2 := HB1.out.2.1.cell 2 _ rfl; have k3 := HB1.out.2.1.cell 3 _ rfl; have r0 := HB1.out.2.2.cell 0 _ rfl; have r1 := HB1.out.2.2.cell 1 _ rfl; have r2 := HB1.out.2.2.cell 2 _ rfl; have r3 := HB1.out.2.2.cell 3 _ rfl
  have kf := HB1.out.2.1.frozen; have rf := HB1.out.2.2.frozen
  go_wp2_with fail
  refine (CI.out _).mono ?_
  rintro e w2 ⟨rfl, rfl⟩
  go_wp2_with fail
  refine region_tail 9 (by kernel_rfl) (by kernel_rfl) ?_
  have HB2 := hide HB1.out.drew
  clear k0 k1 k2 k3 r0 r1 r2 r3 kf rf HB1
  generalize w2.drew = V at *
  have k0 := HB2.out.2.1.cell 0 _ rfl; have k1 := HB2.out.2.1.cell 1 _ rfl; have k2 := HB2.out.2.1.cell 2 _ rfl; have k3 := HB2.out.2.1.cell 3 _ rfl; have r0 := HB2.out.2.2.cell 0 _ rfl; have r1 := HB2.out.2.2.cell 1 _ rfl; have r2 := HB2.out.2.2.cell 2 _ rfl; have r3 := HB2.out.2.2.cell 3 _ rfl
  have kf := HB2.out.2.1.frozen; have rf := HB2.out.2.2.frozen
  simp only [List.take_succ_cons, List.take_zero, List.drop_succ_cons, List.drop_zero]
  repeat (first | go_big_quiet_skip | (go_big_quiet_want; go_big_quiet_op; first | go_big_quiet_on | (apply Exists.intro; (with_reducible refine ⟨l14Min_walk _ _ V, ?_⟩); go_big_quiet_on)))
  refine wpQuiet_nil ?_
  go_wp2_with fail
  refine Bx.four (P := fun X => bodyPost Try.prog Try.f13 _ _ _ X) (HB2.out.put 1 (.int .i64 (min (c + min a m) 1073741824))) ?_
  intro W9 h9
  have r0 := h9.2.2.cell 0 _ rfl; have r1 := h9.2.2.cell 1 _ rfl; have r2 := h9.2.2.cell 2 _ rfl; have r3 := h9.2.2.cell 3 _ rfl
  exact bodyPost_ret (v := .tuple #[.agg #[.int .i64 (m), .int .i64 (min (c + min a m) 1073741824), .int .i64 (t), .int .i64 (n)], .int .i64 0]) (by simp [results, Try.results13, go_sem, r0, r1, r2, r3]) rfl ⟨rfl, h9.1⟩
set_option maxHeartbeats 4000000 in
theorem specAck_slow (m c t n a : Int) (h : cgB m c t n = true) (ha : inB a 1 1073741824 = true) (hf : ¬ c < t) (hg : c ≤ n + a) : ExCCong 13 #[.agg #[.int .i64 m, .int .i64 c, .int .i64 t, .int .i64 n], .int .i64 a] (m) (min (c + m) 1073741824) (t) (0) 0 := by
  intro w
  have CB := hide (fun W => l14OK_walk m c t n W)
  have CI := hide (fun W => In_walk a 1 1073741824 W)
  rw [ha] at CI
  obtain ⟨a0, a1⟩ := inB_iff.1 ha
  obtain ⟨⟨m0, m1⟩, ⟨c0, c1⟩, ⟨t0, t1⟩, ⟨n0, n1⟩⟩ := cgB_iff.1 h
  rw [h] at CB
  clear h ha
  have HB := hide (Bx.start w #[.int .i64 m, .int .i64 c, .int .i64 t, .int .i64 n] #[.int .i64 0, .int .i64 0, .int .i64 0, .int .i64 0] 32)
  go_enter Try.func13, Try.ntmps13
  go_wp2_with fail
  generalize (w.alloc (.cells #[.int .i64 m, .int .i64 c, .int .i64 t, .int .i64 n] 32)).alloc (.cells #[.int .i64 0, .int .i64 0, .int .i64 0, .int .i64 0] 32) = W at *
  refine (CB.out _).mono ?_
  rintro e w1 ⟨rfl, hb1⟩
  have HB1 := hide (HB.out.next hb1)
  clear HB hb1
  have k0 := HB1.out.2.1.cell 0 _ rfl; have k1 := HB1.out.2.1.cell 1 _ rfl; have k2 := HB1.out.2.1.cell 2 _ rfl; have k3 := HB1.out.2.1.cell 3 _ rfl; have r0 := HB1.out.2.2.cell 0 _ rfl; have r1 := HB1.out.2.2.cell 1 _ rfl; have r2 := HB1.out.2.2.cell 2 _ rfl; have r3 := HB1.out.2.2.cell 3 _ rfl
  have kf := HB1.out.2.1.frozen; have rf := HB1.out.2.2.frozen
  go_wp2_with fail
  refine (CI.out _).mono ?_
  rintro e w2 ⟨rfl, rfl⟩
  go_wp2_with (first | (go_at_call 32; refine (l14Min_walk _ _ _).mono ?_; rintro e w3 ⟨rfl, rfl⟩) | (go_at_call 35; refine (l14Max_walk _ _ _).mono ?_; rintro e w3 ⟨rfl, rfl⟩))
  refine Bx.four (P := fun X => bodyPost Try.prog Try.f13 _ _ _ X) ((HB1.out.put 1 (.int .i64 (min (c + m) 1073741824))).put 3 (.int .i64 0)) ?_
  intro W9 h9
  have r0 := h9.2.2.cell 0 _ rfl; have r1 := h9.2.2.cell 1 _ rfl; have r2 := h9.2.2.cell 2 _ rfl; have r3 := h9.2.2.cell 3 _ rfl
  exact bodyPost_ret (v := .tuple #[.agg #[.int .i64 (m), .int .i64 (min (c + m) 1073741824), .int .i64 (t), .int .i64 (0)], .int .i64 0]) (by simp [results, Try.results13, go_sem, r0, r1, r2, r3]) rfl ⟨rfl, h9.1⟩
set_option maxHeartbeats 4000000 in
theorem specAck_wait (m c t n a : Int) (h : cgB m c t n = true) (ha : inB a 1 1073741824 = true) (hf : ¬ c < t) (hg : ¬ c ≤ n + a) : ExCCong 13 #[.agg #[.int .i64 m, .int .i64 c, .int .i64 t, .int .i64 n], .int .i64 a] (m) (c) (t) (n + a) 0 := by
  intro w
  have CB := hide (fun W => l14OK_walk m c t n W)
  have CI := hide (fun W => In_walk a 1 1073741824 W)
  rw [ha] at CI
  obtain ⟨a0, a1⟩ := inB_iff.1 ha
  obtain ⟨⟨m0, m1⟩, ⟨c0, c1⟩, ⟨t0, t1⟩, ⟨n0, n1⟩⟩ := cgB_iff.1 h
  rw [h] at CB
  clear h ha
  have HB := hide (Bx.start w #[.int .i64 m, .int .i64 c, .int .i64 t, .int .i64 n] #[.int .i64 0, .int .i64 0, .int .i64 0, .int .i64 0] 32)
  go_enter Try.func13, Try.ntmps13
  go_wp2_with fail
  generalize (w.alloc (.cells #[.int .i64 m, .int .i64 c, .int .i64 t, .int .i64 n] 32)).alloc (.cells #[.int .i64 0, .int .i64 0, .int .i64 0, .int .i64 0] 32) = W at *
  refine (CB.out _).mono ?_
  rintro e w1 ⟨rfl, hb1⟩
  have HB1 := hide (HB.out.next hb1)
  clear HB hb1
  have k0 := HB1.out.2.1.cell 0 _ rfl; have k1 := HB1.out.2.1.cell 1 _ rfl; have k2 := HB1.out.2.1.cell 2 _ rfl; have k3 := HB1.out.2.1.cell 3 _ rfl; have r0 := HB1.out.2.2.cell 0 _ rfl; have r1 := HB1.out.2.2.cell 1 _ rfl; have r2 := HB1.out.2.2.cell 2 _ rfl; have r3 := HB1.out.2.2.cell 3 _ rfl
  have kf := HB1.out.2.1.frozen; have rf := HB1.out.2.2.frozen
  go_wp2_with fail
  refine (CI.out _).mono ?_
  rintro e w2 ⟨rfl, rfl⟩
  go_wp2_with fail
  refine Bx.four (P := fun X => bodyPost Try.prog Try.f13 _ _ _ X) (HB1.out.put 3 (.int .i64 (n + a))) ?_
  intro W9 h9
  have r0 := h9.2.2.cell 0 _ rfl; have r1 := h9.2.2.cell 1 _ rfl; have r2 := h9.2.2.cell 2 _ rfl; have r3 := h9.2.2.cell 3 _ rfl
  exact bodyPost_ret (v := .tuple #[.agg #[.int .i64 (m), .int .i64 (c), .int .i64 (t), .int .i64 (n + a)], .int .i64 0]) (by simp [results, Try.results13, go_sem, r0, r1, r2, r3]) rfl ⟨rfl, h9.1⟩
set_option maxHeartbeats 4000000 in
theorem specCongLoss_bad (m c t n a : Int) (h : (cgB m c t n && inB a 0 1073741824) = false) : ExCCong 17 #[.agg #[.int .i64 m, .int .i64 c, .int .i64 t, .int .i64 n], .int .i64 a] 0 0 0 0 1 := by
  intro w
  have CB := hide (fun W => l14OK_walk m c t n W)
  have CI := hide (fun W => In_walk a 0 1073741824 W)
  cases hr : cgB m c t n with
  | false =>
    rw [hr] at CB
    clear h hr
    have HB := hide (Bx.start w #[.int .i64 m, .int .i64 c, .int .i64 t, .int .i64 n] #[.int .i64 0, .int .i64 0, .int .i64 0, .int .i64 0] 32)
    go_enter Try.func17, Try.ntmps17
    go_wp2_with fail
    generalize (w.alloc (.cells #[.int .i64 m, .int .i64 c, .int .i64 t, .int .i64 n] 32)).alloc (.cells #[.int .i64 0, .int .i64 0, .int .i64 0, .int .i64 0] 32) = W at *
    refine (CB.out _).mono ?_
    rintro e w1 ⟨rfl, hb1⟩
    have HB1 := hide (HB.out.next hb1)
    clear HB hb1
    have k0 := HB1.out.2.1.cell 0 _ rfl; have k1 := HB1.out.2.1.cell 1 _ rfl; have k2 := HB1.out.2.1.cell 2 _ rfl; have k3 := HB1.out.2.1.cell 3 _ rfl; have r0 := HB1.out.2.2.cell 0 _ rfl; have r1 := HB1.out.2.2.cell 1 _ rfl; have r2 := HB1.out.2.2.cell 2 _ rfl; have r3 := HB1.out.2.2.cell 3 _ rfl
    have kf := HB1.out.2.1.frozen; have rf := HB1.out.2.2.frozen
    go_wp2_with fail
    refine Bx.four (P := fun X => bodyPost Try.prog Try.f17 _ _ _ X) (HB1.out) ?_
    intro W9 h9
    have r0 := h9.2.2.cell 0 _ rfl; have r1 := h9.2.2.cell 1 _ rfl; have r2 := h9.2.2.cell 2 _ rfl; have r3 := h9.2.2.cell 3 _ rfl
    exact bodyPost_ret (v := .tuple #[.agg #[.int .i64 (0), .int .i64 (0), .int .i64 (0), .int .i64 (0)], .int .i64 1]) (by simp [results, Try.results17, go_sem, r0, r1, r2, r3]) rfl ⟨rfl, h9.1⟩
  | true =>
    have hm : inB a 0 1073741824 = false := by rw [hr] at h; simpa using h
    rw [hr] at CB
    rw [hm] at CI
    clear h hr hm
    have HB := hide (Bx.start w #[.int .i64 m, .int .i64 c, .int .i64 t, .int .i64 n] #[.int .i64 0, .int .i64 0, .int .i64 0, .int .i64 0] 32)
    go_enter Try.func17, Try.ntmps17
    go_wp2_with fail
    generalize (w.alloc (.cells #[.int .i64 m, .int .i64 c, .int .i64 t, .int .i64 n] 32)).alloc (.cells #[.int .i64 0, .int .i64 0, .int .i64 0, .int .i64 0] 32) = W at *
    refine (CB.out _).mono ?_
    rintro e w1 ⟨rfl, hb1⟩
    have HB1 := hide (HB.out.next hb1)
    clear HB hb1
    have k0 := HB1.out.2.1.cell 0 _ rfl; have k1 := HB1.out.2.1.cell 1 _ rfl; have k2 := HB1.out.2.1.cell 2 _ rfl; have k3 := HB1.out.2.1.cell 3 _ rfl; have r0 := HB1.out.2.2.cell 0 _ rfl; have r1 := HB1.out.2.2.cell 1 _ rfl; have r2 := HB1.out.2.2.cell 2 _ rfl; have r3 := HB1.out.2.2.cell 3 _ rfl
    have kf := HB1.out.2.1.frozen; have rf := HB1.out.2.2.frozen
    go_wp2_with fail
    refine (CI.out _).mono ?_
    rintro e w2 ⟨rfl, rfl⟩
    go_wp2_with fail
    refine Bx.four (P := fun X => bodyPost Try.prog Try.f17 _ _ _ X) (HB1.out) ?_
    intro W9 h9
    have r0 := h9.2.2.cell 0 _ rfl; have r1 := h9.2.2.cell 1 _ rfl; have r2 := h9.2.2.cell 2 _ rfl; have r3 := h9.2.2.cell 3 _ rfl
    exact bodyPost_ret (v := .tuple #[.agg #[.int .i64 (0), .int .i64 (0), .int .i64 (0), .int .i64 (0)], .int .i64 1]) (by simp [results, Try.results17, go_sem, r0, r1, r2, r3]) rfl ⟨rfl, h9.1⟩
set_option maxHeartbeats 4000000 in
theorem specLoss_ok (m c t n a : Int) (h : cgB m c t n = true) (ha : inB a 0 1073741824 = true) : ExCCong 17 #[.agg #[.int .i64 m, .int .i64 c, .int .i64 t, .int .i64 n], .int .i64 a] (m) (max (a / 2) (2 * m)) (max (a / 2) (2 * m)) (0) 0 := by
  intro w
  have CB := hide (fun W => l14OK_walk m c t n W)
  have CI := hide (fun W => In_walk a 0 1073741824 W)
  rw [ha] at CI
  obtain ⟨a0, a1⟩ := inB_iff.1 ha
  obtain ⟨⟨m0, m1⟩, ⟨c0, c1⟩, ⟨t0, t1⟩, ⟨n0, n1⟩⟩ := cgB_iff.1 h
  rw [h] at CB
  clear h ha
  have HB := hide (Bx.start w #[.int .i64 m, .int .i64 c, .int .i64 t, .int .i64 n] #[.int .i64 0, .int .i64 0, .int .i64 0, .int .i64 0] 32)
  go_enter Try.func17, Try.ntmps17
  go_wp2_with fail
  generalize (w.alloc (.cells #[.int .i64 m, .int .i64 c, .int .i64 t, .int .i64 n] 32)).alloc (.cells #[.int .i64 0, .int .i64 0, .int .i64 0, .int .i64 0] 32) = W at *
  refine (CB.out _).mono ?_
  rintro e w1 ⟨rfl, hb1⟩
  have HB1 := hide (HB.out.next hb1)
  clear HB hb1
  have k0 := HB1.out.2.1.cell 0 _ rfl; have k1 := HB1.out.2.1.cell 1 _ rfl; have k2 := HB1.out.2.1.cell 2 _ rfl; have k3 := HB1.out.2.1.cell 3 _ rfl; have r0 := HB1.out.2.2.cell 0 _ rfl; have r1 := HB1.out.2.2.cell 1 _ rfl; have r2 := HB1.out.2.2.cell 2 _ rfl; have r3 := HB1.out.2.2.cell 3 _ rfl
  have kf := HB1.out.2.1.frozen; have rf := HB1.out.2.2.frozen
  go_wp2_with fail
  refine (CI.out _).mono ?_
  rintro e w2 ⟨rfl, rfl⟩
  go_wp2_with (first | (go_at_call 32; refine (l14Min_walk _ _ _).mono ?_; rintro e w3 ⟨rfl, rfl⟩) | (go_at_call 35; refine (l14Max_walk _ _ _).mono ?_; rintro e w3 ⟨rfl, rfl⟩))
  refine Bx.four (P := fun X => bodyPost Try.prog Try.f17 _ _ _ X) (HB1.out) ?_
  intro W9 h9
  have r0 := h9.2.2.cell 0 _ rfl; have r1 := h9.2.2.cell 1 _ rfl; have r2 := h9.2.2.cell 2 _ rfl; have r3 := h9.2.2.cell 3 _ rfl
  exact bodyPost_ret (v := .tuple #[.agg #[.int .i64 (m), .int .i64 (max (a / 2) (2 * m)), .int .i64 (max (a / 2) (2 * m)), .int .i64 (0)], .int .i64 0]) (by simp [results, Try.results17, go_sem, r0, r1, r2, r3]) rfl ⟨rfl, h9.1⟩
set_option maxHeartbeats 4000000 in
theorem specCongTimeout_bad (m c t n a : Int) (h : (cgB m c t n && inB a 0 1073741824) = false) : ExCCong 19 #[.agg #[.int .i64 m, .int .i64 c, .int .i64 t, .int .i64 n], .int .i64 a] 0 0 0 0 1 := by
  intro w
  have CB := hide (fun W => l14OK_walk m c t n W)
  have CI := hide (fun W => In_walk a 0 1073741824 W)
  cases hr : cgB m c t n with
  | false =>
    rw [hr] at CB
    clear h hr
    have HB := hide (Bx.start w #[.int .i64 m, .int .i64 c, .int .i64 t, .int .i64 n] #[.int .i64 0, .int .i64 0, .int .i64 0, .int .i64 0] 32)
    go_enter Try.func19, Try.ntmps19
    go_wp2_with fail
    generalize (w.alloc (.cells #[.int .i64 m, .int .i64 c, .int .i64 t, .int .i64 n] 32)).alloc (.cells #[.int .i64 0, .int .i64 0, .int .i64 0, .int .i64 0] 32) = W at *
    refine (CB.out _).mono ?_
    rintro e w1 ⟨rfl, hb1⟩
    have HB1 := hide (HB.out.next hb1)
    clear HB hb1
    have k0 := HB1.out.2.1.cell 0 _ rfl; have k1 := HB1.out.2.1.cell 1 _ rfl; have k2 := HB1.out.2.1.cell 2 _ rfl; have k3 := HB1.out.2.1.cell 3 _ rfl; have r0 := HB1.out.2.2.cell 0 _ rfl; have r1 := HB1.out.2.2.cell 1 _ rfl; have r2 := HB1.out.2.2.cell 2 _ rfl; have r3 := HB1.out.2.2.cell 3 _ rfl
    have kf := HB1.out.2.1.frozen; have rf := HB1.out.2.2.frozen
    go_wp2_with fail
    refine Bx.four (P := fun X => bodyPost Try.prog Try.f19 _ _ _ X) (HB1.out) ?_
    intro W9 h9
    have r0 := h9.2.2.cell 0 _ rfl; have r1 := h9.2.2.cell 1 _ rfl; have r2 := h9.2.2.cell 2 _ rfl; have r3 := h9.2.2.cell 3 _ rfl
    exact bodyPost_ret (v := .tuple #[.agg #[.int .i64 (0), .int .i64 (0), .int .i64 (0), .int .i64 (0)], .int .i64 1]) (by simp [results, Try.results19, go_sem, r0, r1, r2, r3]) rfl ⟨rfl, h9.1⟩
  | true =>
    have hm : inB a 0 1073741824 = false := by rw [hr] at h; simpa using h
    rw [hr] at CB
    rw [hm] at CI
    clear h hr hm
    have HB := hide (Bx.start w #[.int .i64 m, .int .i64 c, .int .i64 t, .int .i64 n] #[.int .i64 0, .int .i64 0, .int .i64 0, .int .i64 0] 32)
    go_enter Try.func19, Try.ntmps19
    go_wp2_with fail
    generalize (w.alloc (.cells #[.int .i64 m, .int .i64 c, .int .i64 t, .int .i64 n] 32)).alloc (.cells #[.int .i64 0, .int .i64 0, .int .i64 0, .int .i64 0] 32) = W at *
    refine (CB.out _).mono ?_
    rintro e w1 ⟨rfl, hb1⟩
    have HB1 := hide (HB.out.next hb1)
    clear HB hb1
    have k0 := HB1.out.2.1.cell 0 _ rfl; have k1 := HB1.out.2.1.cell 1 _ rfl; have k2 := HB1.out.2.1.cell 2 _ rfl; have k3 := HB1.out.2.1.cell 3 _ rfl; have r0 := HB1.out.2.2.cell 0 _ rfl; have r1 := HB1.out.2.2.cell 1 _ rfl; have r2 := HB1.out.2.2.cell 2 _ rfl; have r3 := HB1.out.2.2.cell 3 _ rfl
    have kf := HB1.out.2.1.frozen; have rf := HB1.out.2.2.frozen
    go_wp2_with fail
    refine (CI.out _).mono ?_
    rintro e w2 ⟨rfl, rfl⟩
    go_wp2_with fail
    refine Bx.four (P := fun X => bodyPost Try.prog Try.f19 _ _ _ X) (HB1.out) ?_
    intro W9 h9
    have r0 := h9.2.2.cell 0 _ rfl; have r1 := h9.2.2.cell 1 _ rfl; have r2 := h9.2.2.cell 2 _ rfl; have r3 := h9.2.2.cell 3 _ rfl
    exact bodyPost_ret (v := .tuple #[.agg #[.int .i64 (0), .int .i64 (0), .int .i64 (0), .int .i64 (0)], .int .i64 1]) (by simp [results, Try.results19, go_sem, r0, r1, r2, r3]) rfl ⟨rfl, h9.1⟩
set_option maxHeartbeats 4000000 in
theorem specTimeout_ok (m c t n a : Int) (h : cgB m c t n = true) (ha : inB a 0 1073741824 = true) : ExCCong 19 #[.agg #[.int .i64 m, .int .i64 c, .int .i64 t, .int .i64 n], .int .i64 a] (m) (m) (max (a / 2) (2 * m)) (0) 0 := by
  intro w
  have CB := hide (fun W => l14OK_walk m c t n W)
  have CI := hide (fun W => In_walk a 0 1073741824 W)
  rw [ha] at CI
  obtain ⟨a0, a1⟩ := inB_iff.1 ha
  obtain ⟨⟨m0, m1⟩, ⟨c0, c1⟩, ⟨t0, t1⟩, ⟨n0, n1⟩⟩ := cgB_iff.1 h
  rw [h] at CB
  clear h ha
  have HB := hide (Bx.start w #[.int .i64 m, .int .i64 c, .int .i64 t, .int .i64 n] #[.int .i64 0, .int .i64 0, .int .i64 0, .int .i64 0] 32)
  go_enter Try.func19, Try.ntmps19
  go_wp2_with fail
  generalize (w.alloc (.cells #[.int .i64 m, .int .i64 c, .int .i64 t, .int .i64 n] 32)).alloc (.cells #[.int .i64 0, .int .i64 0, .int .i64 0, .int .i64 0] 32) = W at *
  refine (CB.out _).mono ?_
  rintro e w1 ⟨rfl, hb1⟩
  have HB1 := hide (HB.out.next hb1)
  clear HB hb1
  have k0 := HB1.out.2.1.cell 0 _ rfl; have k1 := HB1.out.2.1.cell 1 _ rfl; have k2 := HB1.out.2.1.cell 2 _ rfl; have k3 := HB1.out.2.1.cell 3 _ rfl; have r0 := HB1.out.2.2.cell 0 _ rfl; have r1 := HB1.out.2.2.cell 1 _ rfl; have r2 := HB1.out.2.2.cell 2 _ rfl; have r3 := HB1.out.2.2.cell 3 _ rfl
  have kf := HB1.out.2.1.frozen; have rf := HB1.out.2.2.frozen
  go_wp2_with fail
  refine (CI.out _).mono ?_
  rintro e w2 ⟨rfl, rfl⟩
  go_wp2_with fail
  refine region_tail 11 (by kernel_rfl) (by kernel_rfl) ?_
  have HB2 := hide HB1.out.drew
  clear k0 k1 k2 k3 r0 r1 r2 r3 kf rf HB1
  generalize w2.drew = V at *
  have k0 := HB2.out.2.1.cell 0 _ rfl; have k1 := HB2.out.2.1.cell 1 _ rfl; have k2 := HB2.out.2.1.cell 2 _ rfl; have k3 := HB2.out.2.1.cell 3 _ rfl; have r0 := HB2.out.2.2.cell 0 _ rfl; have r1 := HB2.out.2.2.cell 1 _ rfl; have r2 := HB2.out.2.2.cell 2 _ rfl; have r3 := HB2.out.2.2.cell 3 _ rfl
  have kf := HB2.out.2.1.frozen; have rf := HB2.out.2.2.frozen
  simp only [List.take_succ_cons, List.take_zero, List.drop_succ_cons, List.drop_zero]
  repeat (first | go_big_quiet_skip | (go_big_quiet_want; go_big_quiet_op; first | go_big_quiet_on | (apply Exists.intro; (with_reducible refine ⟨l14Max_walk _ _ V, ?_⟩); go_big_quiet_on)))
  refine wpQuiet_nil ?_
  go_wp2_with fail
  refine Bx.four (P := fun X => bodyPost Try.prog Try.f19 _ _ _ X) (HB2.out) ?_
  intro W9 h9
  have r0 := h9.2.2.cell 0 _ rfl; have r1 := h9.2.2.cell 1 _ rfl; have r2 := h9.2.2.cell 2 _ rfl; have r3 := h9.2.2.cell 3 _ rfl
  exact bodyPost_ret (v := .tuple #[.agg #[.int .i64 (m), .int .i64 (m), .int .i64 (max (a / 2) (2 * m)), .int .i64 (0)], .int .i64 0]) (by simp [results, Try.results19, go_sem, r0, r1, r2, r3]) rfl ⟨rfl, h9.1⟩
theorem specNew_bad (a : Int) (h : inB a 1 65535 = false) : ExCCong 26 #[.int .i64 a] 0 0 0 0 1 := by
  intro w
  have CI := hide (fun W => In_walk a 1 65535 W)
  rw [h] at CI
  clear h
  have HB := hide (BoxV.start w #[.int .i64 0, .int .i64 0, .int .i64 0, .int .i64 0] 32)
  go_enter Try.func26, Try.ntmps26
  go_wp2_with fail
  generalize w.alloc (.cells #[.int .i64 0, .int .i64 0, .int .i64 0, .int .i64 0] 32) = W at *
  refine (CI.out _).mono ?_
  rintro e w2 ⟨rfl, rfl⟩
  have r0 := HB.out.cell 0 _ rfl; have r1 := HB.out.cell 1 _ rfl; have r2 := HB.out.cell 2 _ rfl; have r3 := HB.out.cell 3 _ rfl
  have rf : ∀ o, w2.frozen? ⟨w.heap.size, o, none⟩ = false := fun o => frozen_of_row _ _ o _ _ HB.out.2.2
  go_wp2_with fail
  refine BoxV.four (P := fun X => bodyPost Try.prog Try.f26 _ _ _ X) HB.out ?_
  intro W9 h9
  have r0 := h9.cell 0 _ rfl; have r1 := h9.cell 1 _ rfl; have r2 := h9.cell 2 _ rfl; have r3 := h9.cell 3 _ rfl
  exact bodyPost_ret (v := .tuple #[.agg #[.int .i64 0, .int .i64 0, .int .i64 0, .int .i64 0], .int .i64 1]) (by simp [results, Try.results26, go_sem, r0, r1, r2, r3]) rfl ⟨rfl, h9.1⟩
set_option maxHeartbeats 4000000 in
theorem specNew_ok (a : Int) (h : inB a 1 65535 = true) : ExCCong 26 #[.int .i64 a] a (fiB a) 1073741824 0 0 := by
  intro w
  have CI := hide (fun W => In_walk a 1 65535 W)
  rw [h] at CI
  obtain ⟨a0, a1⟩ := inB_iff.1 h
  have E : Hid (min (4 * a) (max 4380 (2 * a)) = fiB a) := hide rfl
  clear h
  have HB := hide (BoxV.start w #[.int .i64 0, .int .i64 0, .int .i64 0, .int .i64 0] 32)
  go_enter Try.func26, Try.ntmps26
  go_wp2_with fail
  generalize w.alloc (.cells #[.int .i64 0, .int .i64 0, .int .i64 0, .int .i64 0] 32) = W at *
  refine (CI.out _).mono ?_
  rintro e w2 ⟨rfl, rfl⟩
  have r0 := HB.out.cell 0 _ rfl; have r1 := HB.out.cell 1 _ rfl; have r2 := HB.out.cell 2 _ rfl; have r3 := HB.out.cell 3 _ rfl
  have rf : ∀ o, w2.frozen? ⟨w.heap.size, o, none⟩ = false := fun o => frozen_of_row _ _ o _ _ HB.out.2.2
  go_wp2_with (first | (go_at_call 32; refine (l14Min_walk _ _ _).mono ?_; rintro e w3 ⟨rfl, rfl⟩) | (go_at_call 35; refine (l14Max_walk _ _ _).mono ?_; rintro e w3 ⟨rfl, rfl⟩))
  refine BoxV.four (P := fun X => bodyPost Try.prog Try.f26 _ _ _ X) HB.out ?_
  intro W9 h9
  have r0 := h9.cell 0 _ rfl; have r1 := h9.cell 1 _ rfl; have r2 := h9.cell 2 _ rfl; have r3 := h9.cell 3 _ rfl
  exact bodyPost_ret (v := .tuple #[.agg #[.int .i64 a, .int .i64 (min (4 * a) (max 4380 (2 * a))), .int .i64 1073741824, .int .i64 0], .int .i64 0]) (by simp [results, Try.results26, go_sem, r0, r1, r2, r3]) rfl ⟨ret_four rfl (i64_eq E.out) rfl rfl rfl, h9.1⟩
set_option maxHeartbeats 4000000 in
theorem specCongIdle_bad (m c t n : Int) (h : cgB m c t n = false) : ExCCong 21 #[.agg #[.int .i64 m, .int .i64 c, .int .i64 t, .int .i64 n]] 0 0 0 0 1 := by
  intro w
  have CB := hide (fun W => l14OK_walk m c t n W)
  rw [h] at CB
  clear h
  have HB := hide (Bx.start w #[.int .i64 m, .int .i64 c, .int .i64 t, .int .i64 n] #[.int .i64 0, .int .i64 0, .int .i64 0, .int .i64 0] 32)
  go_enter Try.func21, Try.ntmps21
  go_wp2_with fail
  generalize (w.alloc (.cells #[.int .i64 m, .int .i64 c, .int .i64 t, .int .i64 n] 32)).alloc (.cells #[.int .i64 0, .int .i64 0, .int .i64 0, .int .i64 0] 32) = W at *
  refine (CB.out _).mono ?_
  rintro e w1 ⟨rfl, hb1⟩
  have HB1 := hide (HB.out.next hb1)
  clear HB hb1
  have k0 := HB1.out.2.1.cell 0 _ rfl; have k1 := HB1.out.2.1.cell 1 _ rfl; have k2 := HB1.out.2.1.cell 2 _ rfl; have k3 := HB1.out.2.1.cell 3 _ rfl; have r0 := HB1.out.2.2.cell 0 _ rfl; have r1 := HB1.out.2.2.cell 1 _ rfl; have r2 := HB1.out.2.2.cell 2 _ rfl; have r3 := HB1.out.2.2.cell 3 _ rfl
  have kf := HB1.out.2.1.frozen; have rf := HB1.out.2.2.frozen
  go_wp2_with fail
  refine Bx.four (P := fun X => bodyPost Try.prog Try.f21 _ _ _ X) (HB1.out) ?_
  intro W9 h9
  have r0 := h9.2.2.cell 0 _ rfl; have r1 := h9.2.2.cell 1 _ rfl; have r2 := h9.2.2.cell 2 _ rfl; have r3 := h9.2.2.cell 3 _ rfl
  exact bodyPost_ret (v := .tuple #[.agg #[.int .i64 (0), .int .i64 (0), .int .i64 (0), .int .i64 (0)], .int .i64 1]) (by simp [results, Try.results21, go_sem, r0, r1, r2, r3]) rfl ⟨rfl, h9.1⟩
set_option maxHeartbeats 4000000 in
theorem specIdle_ok (m c t n : Int) (h : cgB m c t n = true) : ExCCong 21 #[.agg #[.int .i64 m, .int .i64 c, .int .i64 t, .int .i64 n]] (m) (min c (fiB m)) (t) (0) 0 := by
  intro w
  have CB := hide (fun W => l14OK_walk m c t n W)
  obtain ⟨⟨m0, m1⟩, ⟨c0, c1⟩, ⟨t0, t1⟩, ⟨n0, n1⟩⟩ := cgB_iff.1 h
  rw [h] at CB
  clear h
  have HB := hide (Bx.start w #[.int .i64 m, .int .i64 c, .int .i64 t, .int .i64 n] #[.int .i64 0, .int .i64 0, .int .i64 0, .int .i64 0] 32)
  go_enter Try.func21, Try.ntmps21
  go_wp2_with fail
  generalize (w.alloc (.cells #[.int .i64 m, .int .i64 c, .int .i64 t, .int .i64 n] 32)).alloc (.cells #[.int .i64 0, .int .i64 0, .int .i64 0, .int .i64 0] 32) = W at *
  refine (CB.out _).mono ?_
  rintro e w1 ⟨rfl, hb1⟩
  have HB1 := hide (HB.out.next hb1)
  clear HB hb1
  have k0 := HB1.out.2.1.cell 0 _ rfl; have k1 := HB1.out.2.1.cell 1 _ rfl; have k2 := HB1.out.2.1.cell 2 _ rfl; have k3 := HB1.out.2.1.cell 3 _ rfl; have r0 := HB1.out.2.2.cell 0 _ rfl; have r1 := HB1.out.2.2.cell 1 _ rfl; have r2 := HB1.out.2.2.cell 2 _ rfl; have r3 := HB1.out.2.2.cell 3 _ rfl
  have kf := HB1.out.2.1.frozen; have rf := HB1.out.2.2.frozen
  obtain ⟨f0, f1⟩ := fiB_bd m0 m1
  have CN := hide (fun W => specNew_ok m (inB_iff.2 ⟨m0, m1⟩) W)
  go_wp2_with fail
  refine (CN.out _).mono ?_
  rintro e w2 ⟨rfl, hb2⟩
  have HB2 := hide (HB1.out.next hb2)
  clear HB1 hb2 k0 k1 k2 k3 r0 r1 r2 r3 kf rf
  have hal := (Below.refl w2.heap.size w2).alloc (Nat.le_refl _) (.cells #[.int .i64 m, .int .i64 (fiB m), .int .i64 1073741824, .int .i64 0] 32)
  have HB3 := hide (HB2.out.next hal)
  have HG : Hid (HoldV (w2.alloc (.cells #[.int .i64 m, .int .i64 (fiB m), .int .i64 1073741824, .int .i64 0] 32)) w2.heap.size #[.int .i64 m, .int .i64 (fiB m), .int .i64 1073741824, .int .i64 0] 32) := hide (heap_alloc_new _ _)
  clear hal HB2
  have k0 := HB3.out.2.1.cell 0 _ rfl; have k1 := HB3.out.2.1.cell 1 _ rfl; have k2 := HB3.out.2.1.cell 2 _ rfl; have k3 := HB3.out.2.1.cell 3 _ rfl; have r0 := HB3.out.2.2.cell 0 _ rfl; have r1 := HB3.out.2.2.cell 1 _ rfl; have r2 := HB3.out.2.2.cell 2 _ rfl; have r3 := HB3.out.2.2.cell 3 _ rfl
  have kf := HB3.out.2.1.frozen; have rf := HB3.out.2.2.frozen; have g1 := HG.out.cell 1 _ rfl
  go_wp2_with (first | (go_at_call 32; refine (l14Min_walk _ _ _).mono ?_; rintro e w3 ⟨rfl, rfl⟩) | (go_at_call 35; refine (l14Max_walk _ _ _).mono ?_; rintro e w3 ⟨rfl, rfl⟩))
  refine Bx.four (P := fun X => bodyPost Try.prog Try.f21 _ _ _ X) ((HB3.out.put 1 (.int .i64 (min c (fiB m)))).put 3 (.int .i64 0)) ?_
  intro W9 h9
  have r0 := h9.2.2.cell 0 _ rfl; have r1 := h9.2.2.cell 1 _ rfl; have r2 := h9.2.2.cell 2 _ rfl; have r3 := h9.2.2.cell 3 _ rfl
  exact bodyPost_ret (v := .tuple #[.agg #[.int .i64 (m), .int .i64 (min c (fiB m)), .int .i64 (t), .int .i64 (0)], .int .i64 0]) (by simp [results, Try.results21, go_sem, r0, r1, r2, r3]) rfl ⟨rfl, h9.1⟩
end Go.Proofs.Ytnnijikfppijfab
