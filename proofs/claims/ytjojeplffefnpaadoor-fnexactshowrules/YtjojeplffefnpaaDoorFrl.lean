/-
Contracts of functions of this seat.
-/
import Derived.Test.YtjojeplffefnpaaDoorRows
import Derived.WalkKit
import Derived.ProofKit
import Derived.OpenShut
import Derived.Test.YtjojeplffefnpaaDoorRu0
namespace Go.Proofs.YtjojeplffefnpaaDoor
open Go.ChangeShapes Go.WideShapes Go.ChangeAt Go.RowKit
set_option linter.unusedVariables false
set_option maxRecDepth 100000
set_option maxHeartbeats 1000000 in
theorem eqRuleS_walk (a b : Option Addr) (n c1 c2 : Nat) (zs : List Int) (w : World) (hn : zs.length = n * 12) (ha : ArrI w a zs) (hb : ArrI w b zs) (hm : n ≤ 1048576) :
    Calls Tryd.prog 9 #[.slice a n c1, .slice b n c2] w fun e w' => e = .returned (.bool true) ∧ Below w.heap.size w w' := by
  have HN := hide hn
  have HA := hide ha
  have HB := hide hb
  clear hn ha hb
  go_enter Tryd.func9, Tryd.ntmps9
  go_wp2_with fail
  go_loopw [5] (fun t w2 => ∃ i : Nat, i ≤ n ∧ t = .int .i64 i ∧ Below w.heap.size w w2) (fun t _ => n - (intOf t).toNat)
  case atStart => exact ⟨0, Nat.zero_le _, rfl, Below.refl _ _⟩
  case round =>
    obtain ⟨i, hi, rfl, hbel⟩ := hrel
    by_cases hlt : i < n
    · have hlt2 : i * 12 + 12 ≤ n * 12 := by omega
      obtain ⟨b1, o1, rfl, hb1, _⟩ := HA.out (i * 12) (by rw [HN.out]; omega)
      have g0 : wr.cell? ⟨b1, o1 + (i * 12), none⟩ = some (.int .i64 (zs.getD (i * 12) 0)) := by
        obtain ⟨b', o', e, _, c⟩ := HA.out (i * 12) (by rw [HN.out]; omega)
        cases e
        rw [hbel.cell (p := ⟨b1, o1 + (i * 12), none⟩) hb1]; exact c
      have g1 : wr.cell? ⟨b1, o1 + (i * 12 + 1), none⟩ = some (.int .i64 (zs.getD (i * 12 + 1) 0)) := by
        obtain ⟨b', o', e, _, c⟩ := HA.out (i * 12 + 1) (by rw [HN.out]; omega)
        cases e
        rw [hbel.cell (p := ⟨b1, o1 + (i * 12 + 1), none⟩) hb1]; exact c
      rw [← Nat.add_assoc] at g1
      have g2 : wr.cell? ⟨b1, o1 + (i * 12 + 2), none⟩ = some (.int .i64 (zs.getD (i * 12 + 2) 0)) := by
        obtain ⟨b', o', e, _, c⟩ := HA.out (i * 12 + 2) (by rw [HN.out]; omega)
        cases e
        rw [hbel.cell (p := ⟨b1, o1 + (i * 12 + 2), none⟩) hb1]; exact c
      rw [← Nat.add_assoc] at g2
      have g3 : wr.cell? ⟨b1, o1 + (i * 12 + 3), none⟩ = some (.int .i64 (zs.getD (i * 12 + 3) 0)) := by
        obtain ⟨b', o', e, _, c⟩ := HA.out (i * 12 + 3) (by rw [HN.out]; omega)
        cases e
        rw [hbel.cell (p := ⟨b1, o1 + (i * 12 + 3), none⟩) hb1]; exact c
      rw [← Nat.add_assoc] at g3
      have g4 : wr.cell? ⟨b1, o1 + (i * 12 + 4), none⟩ = some (.int .i64 (zs.getD (i * 12 + 4) 0)) := by
        obtain ⟨b', o', e, _, c⟩ := HA.out (i * 12 + 4) (by rw [HN.out]; omega)
        cases e
        rw [hbel.cell (p := ⟨b1, o1 + (i * 12 + 4), none⟩) hb1]; exact c
      rw [← Nat.add_assoc] at g4
      have g5 : wr.cell? ⟨b1, o1 + (i * 12 + 5), none⟩ = some (.int .i64 (zs.getD (i * 12 + 5) 0)) := by
        obtain ⟨b', o', e, _, c⟩ := HA.out (i * 12 + 5) (by rw [HN.out]; omega)
        cases e
        rw [hbel.cell (p := ⟨b1, o1 + (i * 12 + 5), none⟩) hb1]; exact c
      rw [← Nat.add_assoc] at g5
      have g6 : wr.cell? ⟨b1, o1 + (i * 12 + 6), none⟩ = some (.int .i64 (zs.getD (i * 12 + 6) 0)) := by
        obtain ⟨b', o', e, _, c⟩ := HA.out (i * 12 + 6) (by rw [HN.out]; omega)
        cases e
        rw [hbel.cell (p := ⟨b1, o1 + (i * 12 + 6), none⟩) hb1]; exact c
      rw [← Nat.add_assoc] at g6
      have g7 : wr.cell? ⟨b1, o1 + (i * 12 + 7), none⟩ = some (.int .i64 (zs.getD (i * 12 + 7) 0)) := by
        obtain ⟨b', o', e, _, c⟩ := HA.out (i * 12 + 7) (by rw [HN.out]; omega)
        cases e
        rw [hbel.cell (p := ⟨b1, o1 + (i * 12 + 7), none⟩) hb1]; exact c
      rw [← Nat.add_assoc] at g7
      have g8 : wr.cell? ⟨b1, o1 + (i * 12 + 8), none⟩ = some (.int .i64 (zs.getD (i * 12 + 8) 0)) := by
        obtain ⟨b', o', e, _, c⟩ := HA.out (i * 12 + 8) (by rw [HN.out]; omega)
        cases e
        rw [hbel.cell (p := ⟨b1, o1 + (i * 12 + 8), none⟩) hb1]; exact c
      rw [← Nat.add_assoc] at g8
      have g9 : wr.cell? ⟨b1, o1 + (i * 12 + 9), none⟩ = some (.int .i64 (zs.getD (i * 12 + 9) 0)) := by
        obtain ⟨b', o', e, _, c⟩ := HA.out (i * 12 + 9) (by rw [HN.out]; omega)
        cases e
        rw [hbel.cell (p := ⟨b1, o1 + (i * 12 + 9), none⟩) hb1]; exact c
      rw [← Nat.add_assoc] at g9
      have g10 : wr.cell? ⟨b1, o1 + (i * 12 + 10), none⟩ = some (.int .i64 (zs.getD (i * 12 + 10) 0)) := by
        obtain ⟨b', o', e, _, c⟩ := HA.out (i * 12 + 10) (by rw [HN.out]; omega)
        cases e
        rw [hbel.cell (p := ⟨b1, o1 + (i * 12 + 10), none⟩) hb1]; exact c
      rw [← Nat.add_assoc] at g10
      have g11 : wr.cell? ⟨b1, o1 + (i * 12 + 11), none⟩ = some (.int .i64 (zs.getD (i * 12 + 11) 0)) := by
        obtain ⟨b', o', e, _, c⟩ := HA.out (i * 12 + 11) (by rw [HN.out]; omega)
        cases e
        rw [hbel.cell (p := ⟨b1, o1 + (i * 12 + 11), none⟩) hb1]; exact c
      rw [← Nat.add_assoc] at g11
      obtain ⟨b2, o2, rfl, hb2, _⟩ := HB.out (i * 12) (by rw [HN.out]; omega)
      have h0 : wr.cell? ⟨b2, o2 + (i * 12), none⟩ = some (.int .i64 (zs.getD (i * 12) 0)) := by
        obtain ⟨b', o', e, _, c⟩ := HB.out (i * 12) (by rw [HN.out]; omega)
        cases e
        rw [hbel.cell (p := ⟨b2, o2 + (i * 12), none⟩) hb2]; exact c
      have h1 : wr.cell? ⟨b2, o2 + (i * 12 + 1), none⟩ = some (.int .i64 (zs.getD (i * 12 + 1) 0)) := by
        obtain ⟨b', o', e, _, c⟩ := HB.out (i * 12 + 1) (by rw [HN.out]; omega)
        cases e
        rw [hbel.cell (p := ⟨b2, o2 + (i * 12 + 1), none⟩) hb2]; exact c
      rw [← Nat.add_assoc] at h1
      have h2 : wr.cell? ⟨b2, o2 + (i * 12 + 2), none⟩ = some (.int .i64 (zs.getD (i * 12 + 2) 0)) := by
        obtain ⟨b', o', e, _, c⟩ := HB.out (i * 12 + 2) (by rw [HN.out]; omega)
        cases e
        rw [hbel.cell (p := ⟨b2, o2 + (i * 12 + 2), none⟩) hb2]; exact c
      rw [← Nat.add_assoc] at h2
      have h3 : wr.cell? ⟨b2, o2 + (i * 12 + 3), none⟩ = some (.int .i64 (zs.getD (i * 12 + 3) 0)) := by
        obtain ⟨b', o', e, _, c⟩ := HB.out (i * 12 + 3) (by rw [HN.out]; omega)
        cases e
        rw [hbel.cell (p := ⟨b2, o2 + (i * 12 + 3), none⟩) hb2]; exact c
      rw [← Nat.add_assoc] at h3
      have h4 : wr.cell? ⟨b2, o2 + (i * 12 + 4), none⟩ = some (.int .i64 (zs.getD (i * 12 + 4) 0)) := by
        obtain ⟨b', o', e, _, c⟩ := HB.out (i * 12 + 4) (by rw [HN.out]; omega)
        cases e
        rw [hbel.cell (p := ⟨b2, o2 + (i * 12 + 4), none⟩) hb2]; exact c
      rw [← Nat.add_assoc] at h4
      have h5 : wr.cell? ⟨b2, o2 + (i * 12 + 5), none⟩ = some (.int .i64 (zs.getD (i * 12 + 5) 0)) := by
        obtain ⟨b', o', e, _, c⟩ := HB.out (i * 12 + 5) (by rw [HN.out]; omega)
        cases e
        rw [hbel.cell (p := ⟨b2, o2 + (i * 12 + 5), none⟩) hb2]; exact c
      rw [← Nat.add_assoc] at h5
      have h6 : wr.cell? ⟨b2, o2 + (i * 12 + 6), none⟩ = some (.int .i64 (zs.getD (i * 12 + 6) 0)) := by
        obtain ⟨b', o', e, _, c⟩ := HB.out (i * 12 + 6) (by rw [HN.out]; omega)
        cases e
        rw [hbel.cell (p := ⟨b2, o2 + (i * 12 + 6), none⟩) hb2]; exact c
      rw [← Nat.add_assoc] at h6
      have h7 : wr.cell? ⟨b2, o2 + (i * 12 + 7), none⟩ = some (.int .i64 (zs.getD (i * 12 + 7) 0)) := by
        obtain ⟨b', o', e, _, c⟩ := HB.out (i * 12 + 7) (by rw [HN.out]; omega)
        cases e
        rw [hbel.cell (p := ⟨b2, o2 + (i * 12 + 7), none⟩) hb2]; exact c
      rw [← Nat.add_assoc] at h7
      have h8 : wr.cell? ⟨b2, o2 + (i * 12 + 8), none⟩ = some (.int .i64 (zs.getD (i * 12 + 8) 0)) := by
        obtain ⟨b', o', e, _, c⟩ := HB.out (i * 12 + 8) (by rw [HN.out]; omega)
        cases e
        rw [hbel.cell (p := ⟨b2, o2 + (i * 12 + 8), none⟩) hb2]; exact c
      rw [← Nat.add_assoc] at h8
      have h9 : wr.cell? ⟨b2, o2 + (i * 12 + 9), none⟩ = some (.int .i64 (zs.getD (i * 12 + 9) 0)) := by
        obtain ⟨b', o', e, _, c⟩ := HB.out (i * 12 + 9) (by rw [HN.out]; omega)
        cases e
        rw [hbel.cell (p := ⟨b2, o2 + (i * 12 + 9), none⟩) hb2]; exact c
      rw [← Nat.add_assoc] at h9
      have h10 : wr.cell? ⟨b2, o2 + (i * 12 + 10), none⟩ = some (.int .i64 (zs.getD (i * 12 + 10) 0)) := by
        obtain ⟨b', o', e, _, c⟩ := HB.out (i * 12 + 10) (by rw [HN.out]; omega)
        cases e
        rw [hbel.cell (p := ⟨b2, o2 + (i * 12 + 10), none⟩) hb2]; exact c
      rw [← Nat.add_assoc] at h10
      have h11 : wr.cell? ⟨b2, o2 + (i * 12 + 11), none⟩ = some (.int .i64 (zs.getD (i * 12 + 11) 0)) := by
        obtain ⟨b', o', e, _, c⟩ := HB.out (i * 12 + 11) (by rw [HN.out]; omega)
        cases e
        rw [hbel.cell (p := ⟨b2, o2 + (i * 12 + 11), none⟩) hb2]; exact c
      rw [← Nat.add_assoc] at h11
      generalize zs.getD (i * 12) 0 = z0 at *
      generalize zs.getD (i * 12 + 1) 0 = z1 at *
      generalize zs.getD (i * 12 + 2) 0 = z2 at *
      generalize zs.getD (i * 12 + 3) 0 = z3 at *
      generalize zs.getD (i * 12 + 4) 0 = z4 at *
      generalize zs.getD (i * 12 + 5) 0 = z5 at *
      generalize zs.getD (i * 12 + 6) 0 = z6 at *
      generalize zs.getD (i * 12 + 7) 0 = z7 at *
      generalize zs.getD (i * 12 + 8) 0 = z8 at *
      generalize zs.getD (i * 12 + 9) 0 = z9 at *
      generalize zs.getD (i * 12 + 10) 0 = z10 at *
      generalize zs.getD (i * 12 + 11) 0 = z11 at *
      have kg0 := cell_regrown g0
      have kg1 := cell_regrown g1
      have kg2 := cell_regrown g2
      have kg3 := cell_regrown g3
      have kg4 := cell_regrown g4
      have kg5 := cell_regrown g5
      have kg6 := cell_regrown g6
      have kg7 := cell_regrown g7
      have kg8 := cell_regrown g8
      have kg9 := cell_regrown g9
      have kg10 := cell_regrown g10
      have kg11 := cell_regrown g11
      have kh0 := cell_regrown h0
      have kh1 := cell_regrown h1
      have kh2 := cell_regrown h2
      have kh3 := cell_regrown h3
      have kh4 := cell_regrown h4
      have kh5 := cell_regrown h5
      have kh6 := cell_regrown h6
      have kh7 := cell_regrown h7
      have kh8 := cell_regrown h8
      have kh9 := cell_regrown h9
      have kh10 := cell_regrown h10
      have kh11 := cell_regrown h11
      have cE : ∀ d os, Calls Tryd.prog 25 #[.agg #[.int .i64 z0, .int .i64 z1, .int .i64 z2, .int .i64 z3, .int .i64 z4, .int .i64 z5, .int .i64 z6, .int .i64 z7, .int .i64 z8, .int .i64 z9, .int .i64 z10, .int .i64 z11], .agg #[.int .i64 z0, .int .i64 z1, .int .i64 z2, .int .i64 z3, .int .i64 z4, .int .i64 z5, .int .i64 z6, .int .i64 z7, .int .i64 z8, .int .i64 z9, .int .i64 z10, .int .i64 z11]] (Go.Sort.grow (redrawn wr d) os) fun e w'' => e = .returned (.bool true) ∧ ∃ p : Regrown, w'' = Go.Sort.grow (redrawn wr p.d) p.os := fun d os => Calls.regrown_of (eqRule_walk z0 z1 z2 z3 z4 z5 z6 z7 z8 z9 z10 z11 (Go.Sort.grow (redrawn wr d) os))
      clear g0 g1 g2 g3 g4 g5 g6 g7 g8 g9 g10 g11 h0 h1 h2 h3 h4 h5 h6 h7 h8 h9 h10 h11
      go_wp2_with fail
      refine wp_region_quiet_below (by kernel_rfl) (by kernel_rfl) ?_
      repeat (first | go_big_quiet_step ((go_at_call 25; exact cE _ _)) | quiet_step ((go_at_call 25; exact cE _ _)))
      refine wpQuiet_nil ?_
      intro _ hw'
      obtain ⟨⟨dq, osq⟩, hw''⟩ := hw'
      subst hw''
      go_wp2
      exact ⟨⟨i + 1, by omega, by go_num, below_then hbel dq osq⟩, by simp [intOf]; omega⟩
    · go_wp2
      go_ret
      exact ⟨rfl, hbel⟩
end Go.Proofs.YtjojeplffefnpaaDoor
