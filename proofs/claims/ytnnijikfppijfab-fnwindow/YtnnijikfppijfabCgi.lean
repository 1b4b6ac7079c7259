/-
Contracts of functions of this seat.
-/
import Derived.Test.YtnnijikfppijfabRows
import Derived.WalkKit
import Derived.ProofKit
import Derived.OpenShut
import Derived.Test.YtnnijikfppijfabCgs
namespace Go.Proofs.Ytnnijikfppijfab
open Go.ChangeShapes Go.WideShapes Go.ChangeAt Go.RowKit
set_option linter.unusedVariables false
set_option maxRecDepth 100000
theorem first_walk (x : Int) (w : World) (h0 : 1 ≤ x) (h1 : x ≤ 65535) : Calls Try.prog 37 #[.int .i64 x] w fun e w' => e = .returned (.int .i64 (fiB x)) ∧ w' = w := by
  unfold fiB
  go_enter Try.func37, Try.ntmps37
  go_wp2
  go_ret
  exact ⟨rfl, rfl⟩
/-- What is wanted of an event. -/
def EvC (f : Nat) (m c t n a r0 r1 r2 r3 : Int) : Prop := ∀ (w : World), Calls Try.prog f #[.agg #[.int .i64 m, .int .i64 c, .int .i64 t, .int .i64 n], .int .i64 a] w fun e w' => e = .returned (.agg #[.int .i64 r0, .int .i64 r1, .int .i64 r2, .int .i64 r3]) ∧ Below w.heap.size w w'
set_option maxHeartbeats 4000000 in
theorem grown_walk (m c t n a : Int) (c0 : 0 ≤ c) (c1 : c ≤ 1073741824) (a0 : 0 ≤ a) (a1 : a ≤ 1073741824) : EvC 47 m c t n a (m) (min (c + a) 1073741824) (t) (n) := by
  intro w
  go_enter Try.func47, Try.ntmps47
  go_wp2_with fail
  exact bodyPost_ret (v := .agg #[.int .i64 (m), .int .i64 (min (c + a) 1073741824), .int .i64 (t), .int .i64 (n)]) (by simp [results, Try.results47, go_sem]) rfl ⟨rfl, ((Below.refl _ _).alloc (Nat.le_refl _) _).alloc (by simp) _⟩
set_option maxHeartbeats 4000000 in
theorem with_walk (m c t n a : Int) : EvC 46 m c t n a (a) (c) (t) (n) := by
  intro w
  go_enter Try.func46, Try.ntmps46
  go_wp2_with fail
  exact bodyPost_ret (v := .agg #[.int .i64 (a), .int .i64 (c), .int .i64 (t), .int .i64 (n)]) (by simp [results, Try.results46, go_sem]) rfl ⟨rfl, ((Below.refl _ _).alloc (Nat.le_refl _) _).alloc (by simp) _⟩
set_option maxHeartbeats 4000000 in
theorem lost_walk (m c t n a : Int) (m0 : 1 ≤ m) (m1 : m ≤ 65535) (a0 : 0 ≤ a) (a1 : a ≤ 1073741824) : EvC 43 m c t n a (m) (max (a / 2) (2 * m)) (max (a / 2) (2 * m)) (0) := by
  intro w
  have CL := hide (fun W => least_walk m W (by omega) m1)
  go_enter Try.func43, Try.ntmps43
  go_wp2_with fail
  refine (CL.out _).mono ?_
  rintro e w1 ⟨rfl, rfl⟩
  go_wp2_with fail
  exact bodyPost_ret (v := .agg #[.int .i64 (m), .int .i64 (max (a / 2) (2 * m)), .int .i64 (max (a / 2) (2 * m)), .int .i64 (0)]) (by simp [results, Try.results43, go_sem]) rfl ⟨rfl, ((Below.refl _ _).alloc (Nat.le_refl _) _).alloc (by simp) _⟩
set_option maxHeartbeats 4000000 in
theorem timed_walk (m c t n a : Int) (m0 : 1 ≤ m) (m1 : m ≤ 65535) (a0 : 0 ≤ a) (a1 : a ≤ 1073741824) : EvC 44 m c t n a (m) (m) (max (a / 2) (2 * m)) (0) := by
  intro w
  obtain ⟨X, hX⟩ : ∃ x, x = max (a / 2) (2 * m) := ⟨_, rfl⟩
  have CL := hide (fun W => by have q := lost_walk m c t n a m0 m1 a0 a1 W; rw [← hX] at q; exact q)
  rw [← hX]
  clear hX
  have HB := hide (Bx.start w #[.int .i64 (m), .int .i64 (c), .int .i64 (t), .int .i64 (n)] #[.int .i64 0, .int .i64 0, .int .i64 0, .int .i64 0] 32)
  go_enter Try.func44, Try.ntmps44
  go_wp2_with fail
  generalize (w.alloc (.cells #[.int .i64 (m), .int .i64 (c), .int .i64 (t), .int .i64 (n)] 32)).alloc (.cells #[.int .i64 0, .int .i64 0, .int .i64 0, .int .i64 0] 32) = W at *
  refine (CL.out _).mono ?_
  rintro e w1 ⟨rfl, hb1⟩
  have HB1 := hide (HB.out.next hb1)
  clear HB hb1
  have k0 := HB1.out.2.1.cell 0 _ rfl; have k1 := HB1.out.2.1.cell 1 _ rfl; have k2 := HB1.out.2.1.cell 2 _ rfl; have k3 := HB1.out.2.1.cell 3 _ rfl; have kf := HB1.out.2.1.frozen
  go_upto_region 2 with fail
  clear k0 k1 k2 k3 kf
  refine Bx.afour (P := fun X => Code.wp Try.prog _ _ _ X) HB1.out ?_
  intro W2 h2
  have HB2 := hide h2
  clear h2 HB1
  have k0 := HB2.out.2.1.cell 0 _ rfl; have k1 := HB2.out.2.1.cell 1 _ rfl; have k2 := HB2.out.2.1.cell 2 _ rfl; have k3 := HB2.out.2.1.cell 3 _ rfl; have r0 := HB2.out.2.2.cell 0 _ rfl; have r1 := HB2.out.2.2.cell 1 _ rfl; have r2 := HB2.out.2.2.cell 2 _ rfl; have r3 := HB2.out.2.2.cell 3 _ rfl
  have kf := HB2.out.2.1.frozen; have rf := HB2.out.2.2.frozen
  go_wp2_with fail
  refine Bx.four (P := fun X => bodyPost Try.prog Try.f44 _ _ _ X) (HB2.out.put 1 (.int .i64 m)) ?_
  intro W9 h9
  have r0 := h9.2.2.cell 0 _ rfl; have r1 := h9.2.2.cell 1 _ rfl; have r2 := h9.2.2.cell 2 _ rfl; have r3 := h9.2.2.cell 3 _ rfl
  exact bodyPost_ret (v := .agg #[.int .i64 (m), .int .i64 (m), .int .i64 (X), .int .i64 (0)]) (by simp [results, Try.results44, go_sem, r0, r1, r2, r3]) rfl ⟨rfl, h9.1⟩
set_option maxHeartbeats 4000000 in
theorem acked_fast (m c t n a : Int) (m0 : 1 ≤ m) (m1 : m ≤ 65535) (c0 : m ≤ c) (c1 : c ≤ 1073741824) (t0 : 2 * m ≤ t) (t1 : t ≤ 1073741824) (n0 : 0 ≤ n) (n1 : n ≤ c - 1) (a0 : 1 ≤ a) (a1 : a ≤ 1073741824) (hf : c < t) : EvC 42 m c t n a (m) (min (c + min a m) 1073741824) (t) (n) := by
  intro w
  have CG := hide (fun W => grown_walk m c t n (min a m) (by omega) c1 (by omega) (by omega) W)
  have HB := hide (Bx.start w #[.int .i64 (m), .int .i64 (c), .int .i64 (t), .int .i64 (n)] #[.int .i64 0, .int .i64 0, .int .i64 0, .int .i64 0] 32)
  go_enter Try.func42, Try.ntmps42
  go_wp2_with fail
  generalize (w.alloc (.cells #[.int .i64 (m), .int .i64 (c), .int .i64 (t), .int .i64 (n)] 32)).alloc (.cells #[.int .i64 0, .int .i64 0, .int .i64 0, .int .i64 0] 32) = W at *
  refine (CG.out _).mono ?_
  rintro e w1 ⟨rfl, hb1⟩
  have HB1 := hide (HB.out.next hb1)
  clear HB hb1
  have k0 := HB1.out.2.1.cell 0 _ rfl; have k1 := HB1.out.2.1.cell 1 _ rfl; have k2 := HB1.out.2.1.cell 2 _ rfl; have k3 := HB1.out.2.1.cell 3 _ rfl; have r0 := HB1.out.2.2.cell 0 _ rfl; have r1 := HB1.out.2.2.cell 1 _ rfl; have r2 := HB1.out.2.2.cell 2 _ rfl; have r3 := HB1.out.2.2.cell 3 _ rfl
  have kf := HB1.out.2.1.frozen; have rf := HB1.out.2.2.frozen
  go_wp2_with fail
  refine Bx.four (P := fun X => bodyPost Try.prog Try.f42 _ _ _ X) (HB1.out) ?_
  intro W9 h9
  have r0 := h9.2.2.cell 0 _ rfl; have r1 := h9.2.2.cell 1 _ rfl; have r2 := h9.2.2.cell 2 _ rfl; have r3 := h9.2.2.cell 3 _ rfl
  exact bodyPost_ret (v := .agg #[.int .i64 (m), .int .i64 (min (c + min a m) 1073741824), .int .i64 (t), .int .i64 (n)]) (by simp [results, Try.results42, go_sem, r0, r1, r2, r3]) rfl ⟨rfl, h9.1⟩
set_option maxHeartbeats 4000000 in
theorem acked_slow (m c t n a : Int) (m0 : 1 ≤ m) (m1 : m ≤ 65535) (c0 : m ≤ c) (c1 : c ≤ 1073741824) (t0 : 2 * m ≤ t) (t1 : t ≤ 1073741824) (n0 : 0 ≤ n) (n1 : n ≤ c - 1) (a0 : 1 ≤ a) (a1 : a ≤ 1073741824) (hf : ¬ c < t) (hg : c ≤ n + a) : EvC 42 m c t n a (m) (min (c + m) 1073741824) (t) (0) := by
  intro w
  have CG := hide (fun W => grown_walk m c t 0 m (by omega) c1 (by omega) (by omega) W)
  have HB := hide (Bx.start w #[.int .i64 (m), .int .i64 (c), .int .i64 (t), .int .i64 (0)] #[.int .i64 0, .int .i64 0, .int .i64 0, .int .i64 0] 32)
  go_enter Try.func42, Try.ntmps42
  go_wp2_with fail
  generalize (w.alloc (.cells #[.int .i64 (m), .int .i64 (c), .int .i64 (t), .int .i64 (0)] 32)).alloc (.cells #[.int .i64 0, .int .i64 0, .int .i64 0, .int .i64 0] 32) = W at *
  refine (CG.out _).mono ?_
  rintro e w1 ⟨rfl, hb1⟩
  have HB1 := hide (HB.out.next hb1)
  clear HB hb1
  have k0 := HB1.out.2.1.cell 0 _ rfl; have k1 := HB1.out.2.1.cell 1 _ rfl; have k2 := HB1.out.2.1.cell 2 _ rfl; have k3 := HB1.out.2.1.cell 3 _ rfl; have r0 := HB1.out.2.2.cell 0 _ rfl; have r1 := HB1.out.2.2.cell 1 _ rfl; have r2 := HB1.out.2.2.cell 2 _ rfl; have r3 := HB1.out.2.2.cell 3 _ rfl
  have kf := HB1.out.2.1.frozen; have rf := HB1.out.2.2.frozen
  go_wp2_with fail
  refine Bx.four (P := fun X => bodyPost Try.prog Try.f42 _ _ _ X) (HB1.out) ?_
  intro W9 h9
  have r0 := h9.2.2.cell 0 _ rfl; have r1 := h9.2.2.cell 1 _ rfl; have r2 := h9.2.2.cell 2 _ rfl; have r3 := h9.2.2.cell 3 _ rfl
  exact bodyPost_ret (v := .agg #[.int .i64 (m), .int .i64 (min (c + m) 1073741824), .int .i64 (t), .int .i64 (0)]) (by simp [results, Try.results42, go_sem, r0, r1, r2, r3]) rfl ⟨rfl, h9.1⟩
set_option maxHeartbeats 4000000 in
theorem acked_wait (m c t n a : Int) (m0 : 1 ≤ m) (m1 : m ≤ 65535) (c0 : m ≤ c) (c1 : c ≤ 1073741824) (t0 : 2 * m ≤ t) (t1 : t ≤ 1073741824) (n0 : 0 ≤ n) (n1 : n ≤ c - 1) (a0 : 1 ≤ a) (a1 : a ≤ 1073741824) (hf : ¬ c < t) (hg : ¬ c ≤ n + a) : EvC 42 m c t n a (m) (c) (t) (n + a) := by
  intro w
  go_enter Try.func42, Try.ntmps42
  go_wp2_with fail
  exact bodyPost_ret (v := .agg #[.int .i64 (m), .int .i64 (c), .int .i64 (t), .int .i64 (n + a)]) (by simp [results, Try.results42, go_sem]) rfl ⟨rfl, ((Below.refl _ _).alloc (Nat.le_refl _) _).alloc (by simp) _⟩
set_option maxHeartbeats 4000000 in
theorem idled_walk (m c t n a : Int) (m0 : 1 ≤ m) (m1 : m ≤ 65535) : EvC 45 m c t n a (m) (min c (fiB m)) (t) (0) := by
  intro w
  have CF := hide (fun W => first_walk m W m0 m1)
  have HB := hide (Bx.start w #[.int .i64 m, .int .i64 c, .int .i64 t, .int .i64 n] #[.int .i64 0, .int .i64 0, .int .i64 0, .int .i64 0] 32).drew
  go_enter Try.func45, Try.ntmps45
  go_wp2_with fail
  refine region_tail 7 (by kernel_rfl) (by kernel_rfl) ?_
  generalize ((w.alloc (.cells #[.int .i64 m, .int .i64 c, .int .i64 t, .int .i64 n] 32)).alloc (.cells #[.int .i64 0, .int .i64 0, .int .i64 0, .int .i64 0] 32)).drew = V at *
  have k0 := HB.out.2.1.cell 0 _ rfl; have k1 := HB.out.2.1.cell 1 _ rfl; have k2 := HB.out.2.1.cell 2 _ rfl; have k3 := HB.out.2.1.cell 3 _ rfl; have r0 := HB.out.2.2.cell 0 _ rfl; have r1 := HB.out.2.2.cell 1 _ rfl; have r2 := HB.out.2.2.cell 2 _ rfl; have r3 := HB.out.2.2.cell 3 _ rfl
  have kf := HB.out.2.1.frozen; have rf := HB.out.2.2.frozen
  simp only [List.take_succ_cons, List.take_zero, List.drop_succ_cons, List.drop_zero]
  repeat (first | go_big_quiet_skip | (go_big_quiet_want; go_big_quiet_op; first | go_big_quiet_on | (apply Exists.intro; (with_reducible refine ⟨CF.out V, ?_⟩); go_big_quiet_on)))
  refine wpQuiet_nil ?_
  go_wp2_with fail
  refine Bx.four (P := fun X => bodyPost Try.prog Try.f45 _ _ _ X) ((HB.out.put 1 (.int .i64 (min c (fiB m)))).put 3 (.int .i64 0)) ?_
  intro W9 h9
  have r0 := h9.2.2.cell 0 _ rfl; have r1 := h9.2.2.cell 1 _ rfl; have r2 := h9.2.2.cell 2 _ rfl; have r3 := h9.2.2.cell 3 _ rfl
  exact bodyPost_ret (v := .agg #[.int .i64 (m), .int .i64 (min c (fiB m)), .int .i64 (t), .int .i64 (0)]) (by simp [results, Try.results45, go_sem, r0, r1, r2, r3]) rfl ⟨rfl, h9.1⟩
theorem evIdx0 (w : World) : (Instr.index 63 (.agg #[(.func (.func 42) #[] #[]), (.func (.func 43) #[] #[]), (.func (.func 44) #[] #[]), (.func (.func 45) #[] #[]), (.func (.func 46) #[] #[])]) (.int .i64 0)).run Try.prog w = .ok (.func (.func 42) #[] #[]) w := by
  have u3 := Try.underlying60
  have a3 := Try.isAgg60
  have z3 := Try.sizeOf60
  simp only [Instr.index, Sem.run_bind, run_underlying Try.underlying63, Result.andThen_ok]
  go_simp
theorem eventOf_acked (w : World) : Calls Try.prog 40 #[.int .i64 0] w fun e w' => e = .returned (.func (.func 42) #[] #[]) ∧ w' = w := by
  have hI := hide (evIdx0)
  go_enter Try.func40, Try.ntmps40
  have hJ := hI.out w
  go_wp2
  go_ret
  exact ⟨rfl, rfl⟩
theorem evIdx1 (w : World) : (Instr.index 63 (.agg #[(.func (.func 42) #[] #[]), (.func (.func 43) #[] #[]), (.func (.func 44) #[] #[]), (.func (.func 45) #[] #[]), (.func (.func 46) #[] #[])]) (.int .i64 1)).run Try.prog w = .ok (.func (.func 43) #[] #[]) w := by
  have u3 := Try.underlying60
  have a3 := Try.isAgg60
  have z3 := Try.sizeOf60
  simp only [Instr.index, Sem.run_bind, run_underlying Try.underlying63, Result.andThen_ok]
  go_simp
theorem eventOf_lost (w : World) : Calls Try.prog 40 #[.int .i64 1] w fun e w' => e = .returned (.func (.func 43) #[] #[]) ∧ w' = w := by
  have hI := hide (evIdx1)
  go_enter Try.func40, Try.ntmps40
  have hJ := hI.out w
  go_wp2
  go_ret
  exact ⟨rfl, rfl⟩
theorem evIdx2 (w : World) : (Instr.index 63 (.agg #[(.func (.func 42) #[] #[]), (.func (.func 43) #[] #[]), (.func (.func 44) #[] #[]), (.func (.func 45) #[] #[]), (.func (.func 46) #[] #[])]) (.int .i64 2)).run Try.prog w = .ok (.func (.func 44) #[] #[]) w := by
  have u3 := Try.underlying60
  have a3 := Try.isAgg60
  have z3 := Try.sizeOf60
  simp only [Instr.index, Sem.run_bind, run_underlying Try.underlying63, Result.andThen_ok]
  go_simp
theorem eventOf_timedOut (w : World) : Calls Try.prog 40 #[.int .i64 2] w fun e w' => e = .returned (.func (.func 44) #[] #[]) ∧ w' = w := by
  have hI := hide (evIdx2)
  go_enter Try.func40, Try.ntmps40
  have hJ := hI.out w
  go_wp2
  go_ret
  exact ⟨rfl, rfl⟩
theorem evIdx3 (w : World) : (Instr.index 63 (.agg #[(.func (.func 42) #[] #[]), (.func (.func 43) #[] #[]), (.func (.func 44) #[] #[]), (.func (.func 45) #[] #[]), (.func (.func 46) #[] #[])]) (.int .i64 3)).run Try.prog w = .ok (.func (.func 45) #[] #[]) w := by
  have u3 := Try.underlying60
  have a3 := Try.isAgg60
  have z3 := Try.sizeOf60
  simp only [Instr.index, Sem.run_bind, run_underlying Try.underlying63, Result.andThen_ok]
  go_simp
theorem eventOf_idled (w : World) : Calls Try.prog 40 #[.int .i64 3] w fun e w' => e = .returned (.func (.func 45) #[] #[]) ∧ w' = w := by
  have hI := hide (evIdx3)
  go_enter Try.func40, Try.ntmps40
  have hJ := hI.out w
  go_wp2
  go_ret
  exact ⟨rfl, rfl⟩
theorem evIdx4 (w : World) : (Instr.index 63 (.agg #[(.func (.func 42) #[] #[]), (.func (.func 43) #[] #[]), (.func (.func 44) #[] #[]), (.func (.func 45) #[] #[]), (.func (.func 46) #[] #[])]) (.int .i64 4)).run Try.prog w = .ok (.func (.func 46) #[] #[]) w := by
  have u3 := Try.underlying60
  have a3 := Try.isAgg60
  have z3 := Try.sizeOf60
  simp only [Instr.index, Sem.run_bind, run_underlying Try.underlying63, Result.andThen_ok]
  go_simp
theorem eventOf_withMss (w : World) : Calls Try.prog 40 #[.int .i64 4] w fun e w' => e = .returned (.func (.func 46) #[] #[]) ∧ w' = w := by
  have hI := hide (evIdx4)
  go_enter Try.func40, Try.ntmps40
  have hJ := hI.out w
  go_wp2
  go_ret
  exact ⟨rfl, rfl⟩
set_option maxHeartbeats 4000000 in
theorem after_bad (m c t n k a : Int) (b : Bool) (h : (cgB m c t n && b) = false) : ExCCong 33 #[.agg #[.int .i64 m, .int .i64 c, .int .i64 t, .int .i64 n], .int .i64 k, .int .i64 a, .bool b] 0 0 0 0 1 := by
  intro w
  have CB := hide (fun W => validCong_walk m c t n W)
  cases hr : cgB m c t n with
  | false =>
    rw [hr] at CB
    clear h hr
    have HB := hide (Bx.start w #[.int .i64 m, .int .i64 c, .int .i64 t, .int .i64 n] #[.int .i64 0, .int .i64 0, .int .i64 0, .int .i64 0] 32)
    go_enter Try.func33, Try.ntmps33
    go_wp2_with fail
    generalize (w.alloc (.cells #[.int .i64 m, .int .i64 c, .int .i64 t, .int .i64 n] 32)).alloc (.cells #[.int .i64 0, .int .i64 0, .int .i64 0, .int .i64 0] 32) = W at *
    refine (CB.out _).mono ?_
    rintro e w1 ⟨rfl, hb1⟩
    have HB1 := hide (HB.out.next hb1)
    clear HB hb1
    have k0 := HB1.out.2.1.cell 0 _ rfl; have k1 := HB1.out.2.1.cell 1 _ rfl; have k2 := HB1.out.2.1.cell 2 _ rfl; have k3 := HB1.out.2.1.cell 3 _ rfl; have r0 := HB1.out.2.2.cell 0 _ rfl; have r1 := HB1.out.2.2.cell 1 _ rfl; have r2 := HB1.out.2.2.cell 2 _ rfl; have r3 := HB1.out.2.2.cell 3 _ rfl
    have kf := HB1.out.2.1.frozen; have rf := HB1.out.2.2.frozen
    go_wp2_with fail
    refine Bx.four (P := fun X => bodyPost Try.prog Try.f33 _ _ _ X) (HB1.out) ?_
    intro W9 h9
    have r0 := h9.2.2.cell 0 _ rfl; have r1 := h9.2.2.cell 1 _ rfl; have r2 := h9.2.2.cell 2 _ rfl; have r3 := h9.2.2.cell 3 _ rfl
    exact bodyPost_ret (v := .tuple #[.agg #[.int .i64 (0), .int .i64 (0), .int .i64 (0), .int .i64 (0)], .int .i64 1]) (by simp [results, Try.results33, go_sem, r0, r1, r2, r3]) rfl ⟨rfl, h9.1⟩
  | true =>
    have hm : b = false := by rw [hr] at h; simpa using h
    subst hm
    rw [hr] at CB
    clear h hr
    have HB := hide (Bx.start w #[.int .i64 m, .int .i64 c, .int .i64 t, .int .i64 n] #[.int .i64 0, .int .i64 0, .int .i64 0, .int .i64 0] 32)
    go_enter Try.func33, Try.ntmps33
    go_wp2_with fail
    generalize (w.alloc (.cells #[.int .i64 m, .int .i64 c, .int .i64 t, .int .i64 n] 32)).alloc (.cells #[.int .i64 0, .int .i64 0, .int .i64 0, .int .i64 0] 32) = W at *
    refine (CB.out _).mono ?_
    rintro e w1 ⟨rfl, hb1⟩
    have HB1 := hide (HB.out.next hb1)
    clear HB hb1
    have k0 := HB1.out.2.1.cell 0 _ rfl; have k1 := HB1.out.2.1.cell 1 _ rfl; have k2 := HB1.out.2.1.cell 2 _ rfl; have k3 := HB1.out.2.1.cell 3 _ rfl; have r0 := HB1.out.2.2.cell 0 _ rfl; have r1 := HB1.out.2.2.cell 1 _ rfl; have r2 := HB1.out.2.2.cell 2 _ rfl; have r3 := HB1.out.2.2.cell 3 _ rfl
    have kf := HB1.out.2.1.frozen; have rf := HB1.out.2.2.frozen
    go_wp2_with fail
    refine Bx.four (P := fun X => bodyPost Try.prog Try.f33 _ _ _ X) (HB1.out) ?_
    intro W9 h9
    have r0 := h9.2.2.cell 0 _ rfl; have r1 := h9.2.2.cell 1 _ rfl; have r2 := h9.2.2.cell 2 _ rfl; have r3 := h9.2.2.cell 3 _ rfl
    exact bodyPost_ret (v := .tuple #[.agg #[.int .i64 (0), .int .i64 (0), .int .i64 (0), .int .i64 (0)], .int .i64 1]) (by simp [results, Try.results33, go_sem, r0, r1, r2, r3]) rfl ⟨rfl, h9.1⟩
set_option maxHeartbeats 4000000 in
theorem after_acked (m c t n a y0 y1 y2 y3 : Int) (h : cgB m c t n = true) (hE : EvC 42 m c t n a y0 y1 y2 y3) : ExCCong 33 #[.agg #[.int .i64 m, .int .i64 c, .int .i64 t, .int .i64 n], .int .i64 0, .int .i64 a, .bool true] y0 y1 y2 y3 0 := by
  intro w
  have CB := hide (fun W => validCong_walk m c t n W)
  have CE := hide (fun W => hE W)
  rw [h] at CB
  clear h hE
  have HB := hide (Bx.start w #[.int .i64 m, .int .i64 c, .int .i64 t, .int .i64 n] #[.int .i64 0, .int .i64 0, .int .i64 0, .int .i64 0] 32)
  go_enter Try.func33, Try.ntmps33
  go_wp2_with fail
  generalize (w.alloc (.cells #[.int .i64 m, .int .i64 c, .int .i64 t, .int .i64 n] 32)).alloc (.cells #[.int .i64 0, .int .i64 0, .int .i64 0, .int .i64 0] 32) = W at *
  refine (CB.out _).mono ?_
  rintro e w1 ⟨rfl, hb1⟩
  have HB1 := hide (HB.out.next hb1)
  clear HB hb1
  have k0 := HB1.out.2.1.cell 0 _ rfl; have k1 := HB1.out.2.1.cell 1 _ rfl; have k2 := HB1.out.2.1.cell 2 _ rfl; have k3 := HB1.out.2.1.cell 3 _ rfl
  have kf := HB1.out.2.1.frozen
  go_wp2_with fail
  have q2 := hide (fun (W : World) (hb : Below w1.drew.heap.size w1.drew W) => HB1.out.drew.next hb)
  go_region_with (first | (go_at_call 40; refine (eventOf_acked _).mono ?_; rintro e w2 ⟨rfl, rfl⟩) | (go_at_call 42; refine (CE.out _).mono ?_; rintro e w2 ⟨rfl, hb2⟩; have HB2 := hide (q2.out _ hb2); have rr0 := HB2.out.2.2.cell 0 _ rfl; have rr1 := HB2.out.2.2.cell 1 _ rfl; have rr2 := HB2.out.2.2.cell 2 _ rfl; have rr3 := HB2.out.2.2.cell 3 _ rfl; have rf := HB2.out.2.2.frozen))
  all_goals (go_wp2_with fail)
  all_goals (clear rr0 rr1 rr2 rr3 rf k0 k1 k2 k3 kf)
  all_goals (refine Bx.four (P := fun X => bodyPost Try.prog Try.f33 _ _ _ X) HB2.out ?_; intro W9 h9; have r0 := h9.2.2.cell 0 _ rfl; have r1 := h9.2.2.cell 1 _ rfl; have r2 := h9.2.2.cell 2 _ rfl; have r3 := h9.2.2.cell 3 _ rfl; exact bodyPost_ret (v := .tuple #[.agg #[.int .i64 (y0), .int .i64 (y1), .int .i64 (y2), .int .i64 (y3)], .int .i64 0]) (by simp [results, Try.results33, go_sem, Act.put, r0, r1, r2, r3]) rfl ⟨rfl, h9.1⟩)
set_option maxHeartbeats 4000000 in
theorem after_lost (m c t n a y0 y1 y2 y3 : Int) (h : cgB m c t n = true) (hE : EvC 43 m c t n a y0 y1 y2 y3) : ExCCong 33 #[.agg #[.int .i64 m, .int .i64 c, .int .i64 t, .int .i64 n], .int .i64 1, .int .i64 a, .bool true] y0 y1 y2 y3 0 := by
  intro w
  have CB := hide (fun W => validCong_walk m c t n W)
  have CE := hide (fun W => hE W)
  rw [h] at CB
  clear h hE
  have HB := hide (Bx.start w #[.int .i64 m, .int .i64 c, .int .i64 t, .int .i64 n] #[.int .i64 0, .int .i64 0, .int .i64 0, .int .i64 0] 32)
  go_enter Try.func33, Try.ntmps33
  go_wp2_with fail
  generalize (w.alloc (.cells #[.int .i64 m, .int .i64 c, .int .i64 t, .int .i64 n] 32)).alloc (.cells #[.int .i64 0, .int .i64 0, .int .i64 0, .int .i64 0] 32) = W at *
  refine (CB.out _).mono ?_
  rintro e w1 ⟨rfl, hb1⟩
  have HB1 := hide (HB.out.next hb1)
  clear HB hb1
  have k0 := HB1.out.2.1.cell 0 _ rfl; have k1 := HB1.out.2.1.cell 1 _ rfl; have k2 := HB1.out.2.1.cell 2 _ rfl; have k3 := HB1.out.2.1.cell 3 _ rfl
  have kf := HB1.out.2.1.frozen
  go_wp2_with fail
  have q2 := hide (fun (W : World) (hb : Below w1.drew.heap.size w1.drew W) => HB1.out.drew.next hb)
  go_region_with (first | (go_at_call 40; refine (eventOf_lost _).mono ?_; rintro e w2 ⟨rfl, rfl⟩) | (go_at_call 43; refine (CE.out _).mono ?_; rintro e w2 ⟨rfl, hb2⟩; have HB2 := hide (q2.out _ hb2); have rr0 := HB2.out.2.2.cell 0 _ rfl; have rr1 := HB2.out.2.2.cell 1 _ rfl; have rr2 := HB2.out.2.2.cell 2 _ rfl; have rr3 := HB2.out.2.2.cell 3 _ rfl; have rf := HB2.out.2.2.frozen))
  all_goals (go_wp2_with fail)
  all_goals (clear rr0 rr1 rr2 rr3 rf k0 k1 k2 k3 kf)
  all_goals (refine Bx.four (P := fun X => bodyPost Try.prog Try.f33 _ _ _ X) HB2.out ?_; intro W9 h9; have r0 := h9.2.2.cell 0 _ rfl; have r1 := h9.2.2.cell 1 _ rfl; have r2 := h9.2.2.cell 2 _ rfl; have r3 := h9.2.2.cell 3 _ rfl; exact bodyPost_ret (v := .tuple #[.agg #[.int .i64 (y0), .int .i64 (y1), .int .i64 (y2), .int .i64 (y3)], .int .i64 0]) (by simp [results, Try.results33, go_sem, Act.put, r0, r1, r2, r3]) rfl ⟨rfl, h9.1⟩)
set_option maxHeartbeats 4000000 in
theorem after_timedOut (m c t n a y0 y1 y2 y3 : Int) (h : cgB m c t n = true) (hE : EvC 44 m c t n a y0 y1 y2 y3) : ExCCong 33 #[.agg #[.int .i64 m, .int .i64 c, .int .i64 t, .int .i64 n], .int .i64 2, .int .i64 a, .bool true] y0 y1 y2 y3 0 := by
  intro w
  have CB := hide (fun W => validCong_walk m c t n W)
  have CE := hide (fun W => hE W)
  rw [h] at CB
  clear h hE
  have HB := hide (Bx.start w #[.int .i64 m, .int .i64 c, .int .i64 t, .int .i64 n] #[.int .i64 0, .int .i64 0, .int .i64 0, .int .i64 0] 32)
  go_enter Try.func33, Try.ntmps33
  go_wp2_with fail
  generalize (w.alloc (.cells #[.int .i64 m, .int .i64 c, .int .i64 t, .int .i64 n] 32)).alloc (.cells #[.int .i64 0, .int .i64 0, .int .i64 0, .int .i64 0] 32) = W at *
  refine (CB.out _).mono ?_
  rintro e w1 ⟨rfl, hb1⟩
  have HB1 := hide (HB.out.next hb1)
  clear HB hb1
  have k0 := HB1.out.2.1.cell 0 _ rfl; have k1 := HB1.out.2.1.cell 1 _ rfl; have k2 := HB1.out.2.1.cell 2 _ rfl; have k3 := HB1.out.2.1.cell 3 _ rfl
  have kf := HB1.out.2.1.frozen
  go_wp2_with fail
  have q2 := hide (fun (W : World) (hb : Below w1.drew.heap.size w1.drew W) => HB1.out.drew.next hb)
  go_region_with (first | (go_at_call 40; refine (eventOf_timedOut _).mono ?_; rintro e w2 ⟨rfl, rfl⟩) | (go_at_call 44; refine (CE.out _).mono ?_; rintro e w2 ⟨rfl, hb2⟩; have HB2 := hide (q2.out _ hb2); have rr0 := HB2.out.2.2.cell 0 _ rfl; have rr1 := HB2.out.2.2.cell 1 _ rfl; have rr2 := HB2.out.2.2.cell 2 _ rfl; have rr3 := HB2.out.2.2.cell 3 _ rfl; have rf := HB2.out.2.2.frozen))
  all_goals (go_wp2_with fail)
  all_goals (clear rr0 rr1 rr2 rr3 rf k0 k1 k2 k3 kf)
  all_goals (refine Bx.four (P := fun X => bodyPost Try.prog Try.f33 _ _ _ X) HB2.out ?_; intro W9 h9; have r0 := h9.2.2.cell 0 _ rfl; have r1 := h9.2.2.cell 1 _ rfl; have r2 := h9.2.2.cell 2 _ rfl; have r3 := h9.2.2.cell 3 _ rfl; exact bodyPost_ret (v := .tuple #[.agg #[.int .i64 (y0), .int .i64 (y1), .int .i64 (y2), .int .i64 (y3)], .int .i64 0]) (by simp [results, Try.results33, go_sem, Act.put, r0, r1, r2, r3]) rfl ⟨rfl, h9.1⟩)
set_option maxHeartbeats 4000000 in
theorem after_idled (m c t n a y0 y1 y2 y3 : Int) (h : cgB m c t n = true) (hE : EvC 45 m c t n a y0 y1 y2 y3) : ExCCong 33 #[.agg #[.int .i64 m, .int .i64 c, .int .i64 t, .int .i64 n], .int .i64 3, .int .i64 a, .bool true] y0 y1 y2 y3 0 := by
  intro w
  have CB := hide (fun W => validCong_walk m c t n W)
  have CE := hide (fun W => hE W)
  rw [h] at CB
  clear h hE
  have HB := hide (Bx.start w #[.int .i64 m, .int .i64 c, .int .i64 t, .int .i64 n] #[.int .i64 0, .int .i64 0, .int .i64 0, .int .i64 0] 32)
  go_enter Try.func33, Try.ntmps33
  go_wp2_with fail
  generalize (w.alloc (.cells #[.int .i64 m, .int .i64 c, .int .i64 t, .int .i64 n] 32)).alloc (.cells #[.int .i64 0, .int .i64 0, .int .i64 0, .int .i64 0] 32) = W at *
  refine (CB.out _).mono ?_
  rintro e w1 ⟨rfl, hb1⟩
  have HB1 := hide (HB.out.next hb1)
  clear HB hb1
  have k0 := HB1.out.2.1.cell 0 _ rfl; have k1 := HB1.out.2.1.cell 1 _ rfl; have k2 := HB1.out.2.1.cell 2 _ rfl; have k3 := HB1.out.2.1.cell 3 _ rfl
  have kf := HB1.out.2.1.frozen
  go_wp2_with fail
  have q2 := hide (fun (W : World) (hb : Below w1.drew.heap.size w1.drew W) => HB1.out.drew.next hb)
  go_region_with (first | (go_at_call 40; refine (eventOf_idled _).mono ?_; rintro e w2 ⟨rfl, rfl⟩) | (go_at_call 45; refine (CE.out _).mono ?_; rintro e w2 ⟨rfl, hb2⟩; have HB2 := hide (q2.out _ hb2); have rr0 := HB2.out.2.2.cell 0 _ rfl; have rr1 := HB2.out.2.2.cell 1 _ rfl; have rr2 := HB2.out.2.2.cell 2 _ rfl; have rr3 := HB2.out.2.2.cell 3 _ rfl; have rf := HB2.out.2.2.frozen))
  all_goals (go_wp2_with fail)
  all_goals (clear rr0 rr1 rr2 rr3 rf k0 k1 k2 k3 kf)
  all_goals (refine Bx.four (P := fun X => bodyPost Try.prog Try.f33 _ _ _ X) HB2.out ?_; intro W9 h9; have r0 := h9.2.2.cell 0 _ rfl; have r1 := h9.2.2.cell 1 _ rfl; have r2 := h9.2.2.cell 2 _ rfl; have r3 := h9.2.2.cell 3 _ rfl; exact bodyPost_ret (v := .tuple #[.agg #[.int .i64 (y0), .int .i64 (y1), .int .i64 (y2), .int .i64 (y3)], .int .i64 0]) (by simp [results, Try.results33, go_sem, Act.put, r0, r1, r2, r3]) rfl ⟨rfl, h9.1⟩)
set_option maxHeartbeats 4000000 in
theorem after_withMss (m c t n a y0 y1 y2 y3 : Int) (h : cgB m c t n = true) (hE : EvC 46 m c t n a y0 y1 y2 y3) : ExCCong 33 #[.agg #[.int .i64 m, .int .i64 c, .int .i64 t, .int .i64 n], .int .i64 4, .int .i64 a, .bool true] y0 y1 y2 y3 0 := by
  intro w
  have CB := hide (fun W => validCong_walk m c t n W)
  have CE := hide (fun W => hE W)
  rw [h] at CB
  clear h hE
  have HB := hide (Bx.start w #[.int .i64 m, .int .i64 c, .int .i64 t, .int .i64 n] #[.int .i64 0, .int .i64 0, .int .i64 0, .int .i64 0] 32)
  go_enter Try.func33, Try.ntmps33
  go_wp2_with fail
  generalize (w.alloc (.cells #[.int .i64 m, .int .i64 c, .int .i64 t, .int .i64 n] 32)).alloc (.cells #[.int .i64 0, .int .i64 0, .int .i64 0, .int .i64 0] 32) = W at *
  refine (CB.out _).mono ?_
  rintro e w1 ⟨rfl, hb1⟩
  have HB1 := hide (HB.out.next hb1)
  clear HB hb1
  have k0 := HB1.out.2.1.cell 0 _ rfl; have k1 := HB1.out.2.1.cell 1 _ rfl; have k2 := HB1.out.2.1.cell 2 _ rfl; have k3 := HB1.out.2.1.cell 3 _ rfl
  have kf := HB1.out.2.1.frozen
  go_wp2_with fail
  have q2 := hide (fun (W : World) (hb : Below w1.drew.heap.size w1.drew W) => HB1.out.drew.next hb)
  go_region_with (first | (go_at_call 40; refine (eventOf_withMss _).mono ?_; rintro e w2 ⟨rfl, rfl⟩) | (go_at_call 46; refine (CE.out _).mono ?_; rintro e w2 ⟨rfl, hb2⟩; have HB2 := hide (q2.out _ hb2); have rr0 := HB2.out.2.2.cell 0 _ rfl; have rr1 := HB2.out.2.2.cell 1 _ rfl; have rr2 := HB2.out.2.2.cell 2 _ rfl; have rr3 := HB2.out.2.2.cell 3 _ rfl; have rf := HB2.out.2.2.frozen))
  all_goals (go_wp2_with fail)
  all_goals (clear rr0 rr1 rr2 rr3 rf k0 k1 k2 k3 kf)
  all_goals (refine Bx.four (P := fun X => bodyPost Try.prog Try.f33 _ _ _ X) HB2.out ?_; intro W9 h9; have r0 := h9.2.2.cell 0 _ rfl; have r1 := h9.2.2.cell 1 _ rfl; have r2 := h9.2.2.cell 2 _ rfl; have r3 := h9.2.2.cell 3 _ rfl; exact bodyPost_ret (v := .tuple #[.agg #[.int .i64 (y0), .int .i64 (y1), .int .i64 (y2), .int .i64 (y3)], .int .i64 0]) (by simp [results, Try.results33, go_sem, Act.put, r0, r1, r2, r3]) rfl ⟨rfl, h9.1⟩)
set_option maxHeartbeats 4000000 in
theorem face_CongAck (m c t n a y0 y1 y2 y3 code : Int) (hA : ExCCong 33 #[.agg #[.int .i64 m, .int .i64 c, .int .i64 t, .int .i64 n], .int .i64 0, .int .i64 a, .bool (inB a 1 1073741824)] y0 y1 y2 y3 code) : ExCCong 15 #[.agg #[.int .i64 m, .int .i64 c, .int .i64 t, .int .i64 n], .int .i64 a] y0 y1 y2 y3 code := by
  intro w
  have CA := hide (fun W => hA W)
  clear hA
  obtain ⟨b, hb⟩ : ∃ b, b = inB a 1 1073741824 := ⟨_, rfl⟩
  have CI := hide (fun W => isCwnd_walk a 1 W)
  rw [← hb] at CA CI
  clear hb
  have HB := hide (Bx.start w #[.int .i64 m, .int .i64 c, .int .i64 t, .int .i64 n] #[.int .i64 0, .int .i64 0, .int .i64 0, .int .i64 0] 32)
  have k0 := HB.out.2.1.cell 0 _ rfl; have k1 := HB.out.2.1.cell 1 _ rfl; have k2 := HB.out.2.1.cell 2 _ rfl; have k3 := HB.out.2.1.cell 3 _ rfl
  have kf := HB.out.2.1.frozen
  go_enter Try.func15, Try.ntmps15
  go_upto_region 1 with fail
  generalize (w.alloc (.cells #[.int .i64 m, .int .i64 c, .int .i64 t, .int .i64 n] 32)).alloc (.cells #[.int .i64 0, .int .i64 0, .int .i64 0, .int .i64 0] 32) = W at *
  have q2 := hide (fun (X : World) (hb : Below W.drew.heap.size W.drew X) => HB.out.drew.next hb)
  go_region_with (first | (go_at_call 34; refine (CI.out _).mono ?_; rintro e w2 ⟨rfl, rfl⟩) | (go_at_call 33; refine (CA.out _).mono ?_; rintro e w2 ⟨rfl, hb2⟩; have HB2 := hide (q2.out _ hb2); have rr0 := HB2.out.2.2.cell 0 _ rfl; have rr1 := HB2.out.2.2.cell 1 _ rfl; have rr2 := HB2.out.2.2.cell 2 _ rfl; have rr3 := HB2.out.2.2.cell 3 _ rfl; have rf := HB2.out.2.2.frozen))
  all_goals (go_wp2_with fail)
  all_goals (clear rr0 rr1 rr2 rr3 rf k0 k1 k2 k3 kf)
  all_goals (refine Bx.four (P := fun X => bodyPost Try.prog Try.f15 _ _ _ X) HB2.out ?_; intro W9 h9; have r0 := h9.2.2.cell 0 _ rfl; have r1 := h9.2.2.cell 1 _ rfl; have r2 := h9.2.2.cell 2 _ rfl; have r3 := h9.2.2.cell 3 _ rfl; exact bodyPost_ret (v := .tuple #[.agg #[.int .i64 (y0), .int .i64 (y1), .int .i64 (y2), .int .i64 (y3)], .int .i64 code]) (by simp [results, Try.results15, go_sem, Act.put, r0, r1, r2, r3]) rfl ⟨rfl, h9.1⟩)
set_option maxHeartbeats 4000000 in
theorem face_CongLoss (m c t n a y0 y1 y2 y3 code : Int) (hA : ExCCong 33 #[.agg #[.int .i64 m, .int .i64 c, .int .i64 t, .int .i64 n], .int .i64 1, .int .i64 a, .bool (inB a 0 1073741824)] y0 y1 y2 y3 code) : ExCCong 18 #[.agg #[.int .i64 m, .int .i64 c, .int .i64 t, .int .i64 n], .int .i64 a] y0 y1 y2 y3 code := by
  intro w
  have CA := hide (fun W => hA W)
  clear hA
  obtain ⟨b, hb⟩ : ∃ b, b = inB a 0 1073741824 := ⟨_, rfl⟩
  have CI := hide (fun W => isCwnd_walk a 0 W)
  rw [← hb] at CA CI
  clear hb
  have HB := hide (Bx.start w #[.int .i64 m, .int .i64 c, .int .i64 t, .int .i64 n] #[.int .i64 0, .int .i64 0, .int .i64 0, .int .i64 0] 32)
  have k0 := HB.out.2.1.cell 0 _ rfl; have k1 := HB.out.2.1.cell 1 _ rfl; have k2 := HB.out.2.1.cell 2 _ rfl; have k3 := HB.out.2.1.cell 3 _ rfl
  have kf := HB.out.2.1.frozen
  go_enter Try.func18, Try.ntmps18
  go_upto_region 1 with fail
  generalize (w.alloc (.cells #[.int .i64 m, .int .i64 c, .int .i64 t, .int .i64 n] 32)).alloc (.cells #[.int .i64 0, .int .i64 0, .int .i64 0, .int .i64 0] 32) = W at *
  have q2 := hide (fun (X : World) (hb : Below W.drew.heap.size W.drew X) => HB.out.drew.next hb)
  go_region_with (first | (go_at_call 34; refine (CI.out _).mono ?_; rintro e w2 ⟨rfl, rfl⟩) | (go_at_call 33; refine (CA.out _).mono ?_; rintro e w2 ⟨rfl, hb2⟩; have HB2 := hide (q2.out _ hb2); have rr0 := HB2.out.2.2.cell 0 _ rfl; have rr1 := HB2.out.2.2.cell 1 _ rfl; have rr2 := HB2.out.2.2.cell 2 _ rfl; have rr3 := HB2.out.2.2.cell 3 _ rfl; have rf := HB2.out.2.2.frozen))
  all_goals (go_wp2_with fail)
  all_goals (clear rr0 rr1 rr2 rr3 rf k0 k1 k2 k3 kf)
  all_goals (refine Bx.four (P := fun X => bodyPost Try.prog Try.f18 _ _ _ X) HB2.out ?_; intro W9 h9; have r0 := h9.2.2.cell 0 _ rfl; have r1 := h9.2.2.cell 1 _ rfl; have r2 := h9.2.2.cell 2 _ rfl; have r3 := h9.2.2.cell 3 _ rfl; exact bodyPost_ret (v := .tuple #[.agg #[.int .i64 (y0), .int .i64 (y1), .int .i64 (y2), .int .i64 (y3)], .int .i64 code]) (by simp [results, Try.results18, go_sem, Act.put, r0, r1, r2, r3]) rfl ⟨rfl, h9.1⟩)
set_option maxHeartbeats 4000000 in
theorem face_CongTimeout (m c t n a y0 y1 y2 y3 code : Int) (hA : ExCCong 33 #[.agg #[.int .i64 m, .int .i64 c, .int .i64 t, .int .i64 n], .int .i64 2, .int .i64 a, .bool (inB a 0 1073741824)] y0 y1 y2 y3 code) : ExCCong 20 #[.agg #[.int .i64 m, .int .i64 c, .int .i64 t, .int .i64 n], .int .i64 a] y0 y1 y2 y3 code := by
  intro w
  have CA := hide (fun W => hA W)
  clear hA
  obtain ⟨b, hb⟩ : ∃ b, b = inB a 0 1073741824 := ⟨_, rfl⟩
  have CI := hide (fun W => isCwnd_walk a 0 W)
  rw [← hb] at CA CI
  clear hb
  have HB := hide (Bx.start w #[.int .i64 m, .int .i64 c, .int .i64 t, .int .i64 n] #[.int .i64 0, .int .i64 0, .int .i64 0, .int .i64 0] 32)
  have k0 := HB.out.2.1.cell 0 _ rfl; have k1 := HB.out.2.1.cell 1 _ rfl; have k2 := HB.out.2.1.cell 2 _ rfl; have k3 := HB.out.2.1.cell 3 _ rfl
  have kf := HB.out.2.1.frozen
  go_enter Try.func20, Try.ntmps20
  go_upto_region 1 with fail
  generalize (w.alloc (.cells #[.int .i64 m, .int .i64 c, .int .i64 t, .int .i64 n] 32)).alloc (.cells #[.int .i64 0, .int .i64 0, .int .i64 0, .int .i64 0] 32) = W at *
  have q2 := hide (fun (X : World) (hb : Below W.drew.heap.size W.drew X) => HB.out.drew.next hb)
  go_region_with (first | (go_at_call 34; refine (CI.out _).mono ?_; rintro e w2 ⟨rfl, rfl⟩) | (go_at_call 33; refine (CA.out _).mono ?_; rintro e w2 ⟨rfl, hb2⟩; have HB2 := hide (q2.out _ hb2); have rr0 := HB2.out.2.2.cell 0 _ rfl; have rr1 := HB2.out.2.2.cell 1 _ rfl; have rr2 := HB2.out.2.2.cell 2 _ rfl; have rr3 := HB2.out.2.2.cell 3 _ rfl; have rf := HB2.out.2.2.frozen))
  all_goals (go_wp2_with fail)
  all_goals (clear rr0 rr1 rr2 rr3 rf k0 k1 k2 k3 kf)
  all_goals (refine Bx.four (P := fun X => bodyPost Try.prog Try.f20 _ _ _ X) HB2.out ?_; intro W9 h9; have r0 := h9.2.2.cell 0 _ rfl; have r1 := h9.2.2.cell 1 _ rfl; have r2 := h9.2.2.cell 2 _ rfl; have r3 := h9.2.2.cell 3 _ rfl; exact bodyPost_ret (v := .tuple #[.agg #[.int .i64 (y0), .int .i64 (y1), .int .i64 (y2), .int .i64 (y3)], .int .i64 code]) (by simp [results, Try.results20, go_sem, Act.put, r0, r1, r2, r3]) rfl ⟨rfl, h9.1⟩)
set_option maxHeartbeats 4000000 in
theorem face_CongIdle (m c t n y0 y1 y2 y3 code : Int) (hA : ExCCong 33 #[.agg #[.int .i64 m, .int .i64 c, .int .i64 t, .int .i64 n], .int .i64 3, .int .i64 0, .bool (true)] y0 y1 y2 y3 code) : ExCCong 22 #[.agg #[.int .i64 m, .int .i64 c, .int .i64 t, .int .i64 n]] y0 y1 y2 y3 code := by
  intro w
  have CA := hide (fun W => hA W)
  clear hA
  have HB := hide (Bx.start w #[.int .i64 m, .int .i64 c, .int .i64 t, .int .i64 n] #[.int .i64 0, .int .i64 0, .int .i64 0, .int .i64 0] 32)
  have k0 := HB.out.2.1.cell 0 _ rfl; have k1 := HB.out.2.1.cell 1 _ rfl; have k2 := HB.out.2.1.cell 2 _ rfl; have k3 := HB.out.2.1.cell 3 _ rfl
  have kf := HB.out.2.1.frozen
  go_enter Try.func22, Try.ntmps22
  go_wp2_with fail
  clear k0 k1 k2 k3 kf
  generalize (w.alloc (.cells #[.int .i64 m, .int .i64 c, .int .i64 t, .int .i64 n] 32)).alloc (.cells #[.int .i64 0, .int .i64 0, .int .i64 0, .int .i64 0] 32) = W at *
  refine (CA.out _).mono ?_; rintro e w2 ⟨rfl, hb2⟩; have HB2 := hide (HB.out.next hb2); have rr0 := HB2.out.2.2.cell 0 _ rfl; have rr1 := HB2.out.2.2.cell 1 _ rfl; have rr2 := HB2.out.2.2.cell 2 _ rfl; have rr3 := HB2.out.2.2.cell 3 _ rfl; have rf := HB2.out.2.2.frozen
  all_goals (go_wp2_with fail)
  all_goals (clear rr0 rr1 rr2 rr3 rf)
  all_goals (refine Bx.four (P := fun X => bodyPost Try.prog Try.f22 _ _ _ X) HB2.out ?_; intro W9 h9; have r0 := h9.2.2.cell 0 _ rfl; have r1 := h9.2.2.cell 1 _ rfl; have r2 := h9.2.2.cell 2 _ rfl; have r3 := h9.2.2.cell 3 _ rfl; exact bodyPost_ret (v := .tuple #[.agg #[.int .i64 (y0), .int .i64 (y1), .int .i64 (y2), .int .i64 (y3)], .int .i64 code]) (by simp [results, Try.results22, go_sem, r0, r1, r2, r3]) rfl ⟨rfl, h9.1⟩)
end Go.Proofs.Ytnnijikfppijfab
