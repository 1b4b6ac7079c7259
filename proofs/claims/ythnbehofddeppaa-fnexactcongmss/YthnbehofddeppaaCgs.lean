/-
Contracts of functions of this seat.
-/
import Derived.Test.YthnbehofddeppaaRows
import Derived.WalkKit
import Derived.ProofKit
import Derived.OpenShut
import Derived.Test.YthnbehofddeppaaCgv
namespace Go.Proofs.Ythnbehofddeppaa
open Go.ChangeShapes Go.WideShapes Go.ChangeAt Go.RowKit
set_option linter.unusedVariables false
set_option maxRecDepth 100000
def fiB (m : Int) : Int := min (4 * m) (max 4380 (2 * m))
theorem fiB_bd {m : Int} (h0 : 1 ≤ m) (h1 : m ≤ 65535) : m ≤ fiB m ∧ fiB m ≤ 1073741824 := by unfold fiB; omega
set_option maxHeartbeats 4000000 in
theorem specCongMss_bad (m c t n a : Int) (h : (cgB m c t n && inB a 1 m) = false) : ExCCong 4 #[.agg #[.int .i64 m, .int .i64 c, .int .i64 t, .int .i64 n], .int .i64 a] 0 0 0 0 1 := by
  intro w
  have CB := hide (fun W => l14OK_walk m c t n W)
  have CI := hide (fun W => In_walk a 1 m W)
  cases hr : cgB m c t n with
  | false =>
    rw [hr] at CB
    clear h hr
    have HB := hide (Bx.start w #[.int .i64 m, .int .i64 c, .int .i64 t, .int .i64 n] #[.int .i64 0, .int .i64 0, .int .i64 0, .int .i64 0] 24)
    go_enter Try.func4, Try.ntmps4
    go_wp2_with fail
    generalize (w.alloc (.cells #[.int .i64 m, .int .i64 c, .int .i64 t, .int .i64 n] 24)).alloc (.cells #[.int .i64 0, .int .i64 0, .int .i64 0, .int .i64 0] 24) = W at *
    refine (CB.out _).mono ?_
    rintro e w1 ⟨rfl, hb1⟩
    have HB1 := hide (HB.out.next hb1)
    clear HB hb1
    have k0 := HB1.out.2.1.cell 0 _ rfl; have k1 := HB1.out.2.1.cell 1 _ rfl; have k2 := HB1.out.2.1.cell 2 _ rfl; have k3 := HB1.out.2.1.cell 3 _ rfl; have r0 := HB1.out.2.2.cell 0 _ rfl; have r1 := HB1.out.2.2.cell 1 _ rfl; have r2 := HB1.out.2.2.cell 2 _ rfl; have r3 := HB1.out.2.2.cell 3 _ rfl
    have kf := HB1.out.2.1.frozen; have rf := HB1.out.2.2.frozen
    go_wp2_with fail
    refine Bx.four (P := fun X => bodyPost Try.prog Try.f4 _ _ _ X) (HB1.out) ?_
    intro W9 h9
    have r0 := h9.2.2.cell 0 _ rfl; have r1 := h9.2.2.cell 1 _ rfl; have r2 := h9.2.2.cell 2 _ rfl; have r3 := h9.2.2.cell 3 _ rfl
    exact bodyPost_ret (v := .tuple #[.agg #[.int .i64 (0), .int .i64 (0), .int .i64 (0), .int .i64 (0)], .int .i64 1]) (by simp [results, Try.results4, go_sem, r0, r1, r2, r3]) rfl ⟨rfl, h9.1⟩
  | true =>
    have hm : inB a 1 m = false := by rw [hr] at h; simpa using h
    rw [hr] at CB
    rw [hm] at CI
    clear h hr hm
    have HB := hide (Bx.start w #[.int .i64 m, .int .i64 c, .int .i64 t, .int .i64 n] #[.int .i64 0, .int .i64 0, .int .i64 0, .int .i64 0] 24)
    go_enter Try.func4, Try.ntmps4
    go_wp2_with fail
    generalize (w.alloc (.cells #[.int .i64 m, .int .i64 c, .int .i64 t, .int .i64 n] 24)).alloc (.cells #[.int .i64 0, .int .i64 0, .int .i64 0, .int .i64 0] 24) = W at *
    refine (CB.out _).mono ?_
    rintro e w1 ⟨rfl, hb1⟩
    have HB1 := hide (HB.out.next hb1)
    clear HB hb1
    have k0 := HB1.out.2.1.cell 0 _ rfl; have k1 := HB1.out.2.1.cell 1 _ rfl; have k2 := HB1.out.2.1.cell 2 _ rfl; have k3 := HB1.out.2.1.cell 3 _ rfl; have r0 := HB1.out.2.2.cell 0 _ rfl; have r1 := HB1.out.2.2.cell 1 _ rfl; have r2 := HB1.out.2.2.cell 2 _ rfl; have r3 := HB1.out.2.2.cell 3 _ rfl
    have kf := HB1.out.2.1.frozen; have rf := HB1.out.2.2.frozen
    go_wp2_with fail
    refine (CI.out _).mono ?_
    rintro e w2 ⟨rfl, rfl⟩
    go_wp2_with fail
    refine Bx.four (P := fun X => bodyPost Try.prog Try.f4 _ _ _ X) (HB1.out) ?_
    intro W9 h9
    have r0 := h9.2.2.cell 0 _ rfl; have r1 := h9.2.2.cell 1 _ rfl; have r2 := h9.2.2.cell 2 _ rfl; have r3 := h9.2.2.cell 3 _ rfl
    exact bodyPost_ret (v := .tuple #[.agg #[.int .i64 (0), .int .i64 (0), .int .i64 (0), .int .i64 (0)], .int .i64 1]) (by simp [results, Try.results4, go_sem, r0, r1, r2, r3]) rfl ⟨rfl, h9.1⟩
set_option maxHeartbeats 4000000 in
theorem specMss_ok (m c t n a : Int) (h : cgB m c t n = true) (ha : inB a 1 m = true) : ExCCong 4 #[.agg #[.int .i64 m, .int .i64 c, .int .i64 t, .int .i64 n], .int .i64 a] (a) (c) (t) (n) 0 := by
  intro w
  have CB := hide (fun W => l14OK_walk m c t n W)
  have CI := hide (fun W => In_walk a 1 m W)
  rw [ha] at CI
  obtain ⟨a0, a1⟩ := inB_iff.1 ha
  obtain ⟨⟨m0, m1⟩, ⟨c0, c1⟩, ⟨t0, t1⟩, ⟨n0, n1⟩⟩ := cgB_iff.1 h
  rw [h] at CB
  clear h ha
  have HB := hide (Bx.start w #[.int .i64 m, .int .i64 c, .int .i64 t, .int .i64 n] #[.int .i64 0, .int .i64 0, .int .i64 0, .int .i64 0] 24)
  go_enter Try.func4, Try.ntmps4
  go_wp2_with fail
  generalize (w.alloc (.cells #[.int .i64 m, .int .i64 c, .int .i64 t, .int .i64 n] 24)).alloc (.cells #[.int .i64 0, .int .i64 0, .int .i64 0, .int .i64 0] 24) = W at *
  refine (CB.out _).mono ?_
  rintro e w1 ⟨rfl, hb1⟩
  have HB1 := hide (HB.out.next hb1)
  clear HB hb1
  have k0 := HB1.out.2.1.cell 0 _ rfl; have k1 := HB1.out.2.1.cell 1 _ rfl; have k2 := HB1.out.2.1.cell 2 _ rfl; have k3 := HB1.out.2.1.cell 3 _ rfl; have r0 := HB1.out.2.2.cell 0 _ rfl; have r1 := HB1.out.2.2.cell 1 _ rfl; have r2 := HB1.out.2.2.cell 2 _ rfl; have r3 := HB1.out.2.2.cell 3 _ rfl
  have kf := HB1.out.2.1.frozen; have rf := HB1.out.2.2.frozen
  go_wp2_with fail
  refine (CI.out _).mono ?_
  rintro e w2 ⟨rfl, rfl⟩
  go_wp2_with fail
  refine Bx.four (P := fun X => bodyPost Try.prog Try.f4 _ _ _ X) (HB1.out.put 0 (.int .i64 a)) ?_
  intro W9 h9
  have r0 := h9.2.2.cell 0 _ rfl; have r1 := h9.2.2.cell 1 _ rfl; have r2 := h9.2.2.cell 2 _ rfl; have r3 := h9.2.2.cell 3 _ rfl
  exact bodyPost_ret (v := .tuple #[.agg #[.int .i64 (a), .int .i64 (c), .int .i64 (t), .int .i64 (n)], .int .i64 0]) (by simp [results, Try.results4, go_sem, r0, r1, r2, r3]) rfl ⟨rfl, h9.1⟩
end Go.Proofs.Ythnbehofddeppaa
