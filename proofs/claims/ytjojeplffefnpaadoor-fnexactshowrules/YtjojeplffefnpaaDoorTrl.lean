/-
Contracts of functions of this seat.
-/
import Derived.Test.YtjojeplffefnpaaDoorRows
import Derived.WalkKit
import Derived.ProofKit
import Derived.OpenShut
import Derived.Test.YtjojeplffefnpaaDoorRu0
namespace Go.Proofs.YtjojeplffefnpaaDoor
open Go.ChangeShapes Go.WideShapes Go.ChangeAt Go.RowKit
set_option linter.unusedVariables false
set_option maxRecDepth 100000
theorem Tryd.infoRule : (Tryd.prog.info? 44).map (fun i => (i.zero, i.size, i.bytes)) = some (some (.agg #[.int .i64 0, .int .i64 0, .int .i64 0, .int .i64 0, .int .i64 0, .int .i64 0, .int .i64 0, .int .i64 0, .int .i64 0, .int .i64 0, .int .i64 0, .int .i64 0]), 12, 96) := by kernel_rfl
set_option maxHeartbeats 4000000 in
theorem toRuleS_walk (a : Option Addr) (n cap : Nat) (zs : List Int) (w : World) (hn : zs.length = n * 12) (h : ArrI w a zs) (hm : n ≤ 1048576) :
    Calls Tryd.prog 7 #[.slice a n cap] w fun e w' => e = .returned (.slice (some ⟨w.heap.size, 0, none⟩) n n) ∧ OwnI w' w.heap.size 44 12 (.slice (some ⟨w.heap.size, 0, none⟩) n n) n zs ∧ Below w.heap.size w w' := by
  obtain ⟨i, hi, hz0, hz1, hz2⟩ := info_parts Tryd.infoRule
  have HN := hide hn
  have HA := hide h
  clear hn h
  go_enter Tryd.func7, Tryd.ntmps7
  go_wp2_with (first | (at_make; refine wpList_make_full _ rfl _ _ 26 rfl w.heap.size 44 i _ 12 Tryd.underlying26 hi hz0 hz1 _ _ _ _ n rfl rfl rfl rfl (by rw [hz2]; omega) (by unfold maxLen; omega) (Nat.le_refl _) ?_))
  intro w1 hown hgrow
  have hbel : Below w.heap.size w w1 := (Below.refl _ _).grown hgrow (Nat.le_refl _) (fun k hk => by cases hk)
  have hsz : w.heap.size < w1.heap.size := (hown.lt w.heap.size rfl).2
  clear hgrow hi hz0 hz1 hz2
  have HO : Hid (Filled w1 w.heap.size 44 12 (.slice (some ⟨w.heap.size, 0, none⟩) n n) n zs 0) := hide ⟨_, hown, fun q hq => absurd hq (by omega)⟩
  clear hown
  go_wp2_with fail
  go_loopw [4] (fun t w2 => ∃ j : Nat, j ≤ n ∧ t = .int .i64 j ∧ Below w.heap.size w w2 ∧ w.heap.size < w2.heap.size ∧ Hid (Filled w2 w.heap.size 44 12 (.slice (some ⟨w.heap.size, 0, none⟩) n n) n zs (j * 12))) (fun t _ => n - (intOf t).toNat)
  case atStart => exact ⟨0, Nat.zero_le _, rfl, hbel, hsz, hide (by rw [Nat.zero_mul]; exact HO.out)⟩
  case round =>
    obtain ⟨j, hj, rfl, hb, hs2, HF⟩ := hrel
    by_cases hlt : j < n
    · have hlt2 : j * 12 + 12 ≤ n * 12 := by omega
      obtain ⟨b, off, rfl, hbs, _⟩ := HA.out (j * 12) (by rw [HN.out]; omega)
      have c0 : wr.cell? ⟨b, off + (j * 12), none⟩ = some (.int .i64 (zs.getD (j * 12) 0)) := by
        obtain ⟨b', o', e, _, c⟩ := HA.out (j * 12) (by rw [HN.out]; omega)
        cases e
        rw [hb.cell (p := ⟨b, off + (j * 12), none⟩) hbs]; exact c
      have c1 : wr.cell? ⟨b, off + (j * 12 + 1), none⟩ = some (.int .i64 (zs.getD (j * 12 + 1) 0)) := by
        obtain ⟨b', o', e, _, c⟩ := HA.out (j * 12 + 1) (by rw [HN.out]; omega)
        cases e
        rw [hb.cell (p := ⟨b, off + (j * 12 + 1), none⟩) hbs]; exact c
      rw [← Nat.add_assoc] at c1
      have c2 : wr.cell? ⟨b, off + (j * 12 + 2), none⟩ = some (.int .i64 (zs.getD (j * 12 + 2) 0)) := by
        obtain ⟨b', o', e, _, c⟩ := HA.out (j * 12 + 2) (by rw [HN.out]; omega)
        cases e
        rw [hb.cell (p := ⟨b, off + (j * 12 + 2), none⟩) hbs]; exact c
      rw [← Nat.add_assoc] at c2
      have c3 : wr.cell? ⟨b, off + (j * 12 + 3), none⟩ = some (.int .i64 (zs.getD (j * 12 + 3) 0)) := by
        obtain ⟨b', o', e, _, c⟩ := HA.out (j * 12 + 3) (by rw [HN.out]; omega)
        cases e
        rw [hb.cell (p := ⟨b, off + (j * 12 + 3), none⟩) hbs]; exact c
      rw [← Nat.add_assoc] at c3
      have c4 : wr.cell? ⟨b, off + (j * 12 + 4), none⟩ = some (.int .i64 (zs.getD (j * 12 + 4) 0)) := by
        obtain ⟨b', o', e, _, c⟩ := HA.out (j * 12 + 4) (by rw [HN.out]; omega)
        cases e
        rw [hb.cell (p := ⟨b, off + (j * 12 + 4), none⟩) hbs]; exact c
      rw [← Nat.add_assoc] at c4
      have c5 : wr.cell? ⟨b, off + (j * 12 + 5), none⟩ = some (.int .i64 (zs.getD (j * 12 + 5) 0)) := by
        obtain ⟨b', o', e, _, c⟩ := HA.out (j * 12 + 5) (by rw [HN.out]; omega)
        cases e
        rw [hb.cell (p := ⟨b, off + (j * 12 + 5), none⟩) hbs]; exact c
      rw [← Nat.add_assoc] at c5
      have c6 : wr.cell? ⟨b, off + (j * 12 + 6), none⟩ = some (.int .i64 (zs.getD (j * 12 + 6) 0)) := by
        obtain ⟨b', o', e, _, c⟩ := HA.out (j * 12 + 6) (by rw [HN.out]; omega)
        cases e
        rw [hb.cell (p := ⟨b, off + (j * 12 + 6), none⟩) hbs]; exact c
      rw [← Nat.add_assoc] at c6
      have c7 : wr.cell? ⟨b, off + (j * 12 + 7), none⟩ = some (.int .i64 (zs.getD (j * 12 + 7) 0)) := by
        obtain ⟨b', o', e, _, c⟩ := HA.out (j * 12 + 7) (by rw [HN.out]; omega)
        cases e
        rw [hb.cell (p := ⟨b, off + (j * 12 + 7), none⟩) hbs]; exact c
      rw [← Nat.add_assoc] at c7
      have c8 : wr.cell? ⟨b, off + (j * 12 + 8), none⟩ = some (.int .i64 (zs.getD (j * 12 + 8) 0)) := by
        obtain ⟨b', o', e, _, c⟩ := HA.out (j * 12 + 8) (by rw [HN.out]; omega)
        cases e
        rw [hb.cell (p := ⟨b, off + (j * 12 + 8), none⟩) hbs]; exact c
      rw [← Nat.add_assoc] at c8
      have c9 : wr.cell? ⟨b, off + (j * 12 + 9), none⟩ = some (.int .i64 (zs.getD (j * 12 + 9) 0)) := by
        obtain ⟨b', o', e, _, c⟩ := HA.out (j * 12 + 9) (by rw [HN.out]; omega)
        cases e
        rw [hb.cell (p := ⟨b, off + (j * 12 + 9), none⟩) hbs]; exact c
      rw [← Nat.add_assoc] at c9
      have c10 : wr.cell? ⟨b, off + (j * 12 + 10), none⟩ = some (.int .i64 (zs.getD (j * 12 + 10) 0)) := by
        obtain ⟨b', o', e, _, c⟩ := HA.out (j * 12 + 10) (by rw [HN.out]; omega)
        cases e
        rw [hb.cell (p := ⟨b, off + (j * 12 + 10), none⟩) hbs]; exact c
      rw [← Nat.add_assoc] at c10
      have c11 : wr.cell? ⟨b, off + (j * 12 + 11), none⟩ = some (.int .i64 (zs.getD (j * 12 + 11) 0)) := by
        obtain ⟨b', o', e, _, c⟩ := HA.out (j * 12 + 11) (by rw [HN.out]; omega)
        cases e
        rw [hb.cell (p := ⟨b, off + (j * 12 + 11), none⟩) hbs]; exact c
      rw [← Nat.add_assoc] at c11
      obtain ⟨x0, hx0⟩ : ∃ x, x = zs.getD (j * 12) 0 := ⟨_, rfl⟩
      rw [← hx0] at c0
      have HX0 := hide hx0
      obtain ⟨x1, hx1⟩ : ∃ x, x = zs.getD (j * 12 + 1) 0 := ⟨_, rfl⟩
      rw [← hx1] at c1
      have HX1 := hide hx1
      obtain ⟨x2, hx2⟩ : ∃ x, x = zs.getD (j * 12 + 2) 0 := ⟨_, rfl⟩
      rw [← hx2] at c2
      have HX2 := hide hx2
      obtain ⟨x3, hx3⟩ : ∃ x, x = zs.getD (j * 12 + 3) 0 := ⟨_, rfl⟩
      rw [← hx3] at c3
      have HX3 := hide hx3
      obtain ⟨x4, hx4⟩ : ∃ x, x = zs.getD (j * 12 + 4) 0 := ⟨_, rfl⟩
      rw [← hx4] at c4
      have HX4 := hide hx4
      obtain ⟨x5, hx5⟩ : ∃ x, x = zs.getD (j * 12 + 5) 0 := ⟨_, rfl⟩
      rw [← hx5] at c5
      have HX5 := hide hx5
      obtain ⟨x6, hx6⟩ : ∃ x, x = zs.getD (j * 12 + 6) 0 := ⟨_, rfl⟩
      rw [← hx6] at c6
      have HX6 := hide hx6
      obtain ⟨x7, hx7⟩ : ∃ x, x = zs.getD (j * 12 + 7) 0 := ⟨_, rfl⟩
      rw [← hx7] at c7
      have HX7 := hide hx7
      obtain ⟨x8, hx8⟩ : ∃ x, x = zs.getD (j * 12 + 8) 0 := ⟨_, rfl⟩
      rw [← hx8] at c8
      have HX8 := hide hx8
      obtain ⟨x9, hx9⟩ : ∃ x, x = zs.getD (j * 12 + 9) 0 := ⟨_, rfl⟩
      rw [← hx9] at c9
      have HX9 := hide hx9
      obtain ⟨x10, hx10⟩ : ∃ x, x = zs.getD (j * 12 + 10) 0 := ⟨_, rfl⟩
      rw [← hx10] at c10
      have HX10 := hide hx10
      obtain ⟨x11, hx11⟩ : ∃ x, x = zs.getD (j * 12 + 11) 0 := ⟨_, rfl⟩
      rw [← hx11] at c11
      have HX11 := hide hx11
      clear hx0 hx1 hx2 hx3 hx4 hx5 hx6 hx7 hx8 hx9 hx10 hx11
      have CT := hide (toRule_walk x0 x1 x2 x3 x4 x5 x6 x7 x8 x9 x10 x11 wr)
      go_wp2_with fail
      refine CT.out.mono ?_
      rintro e w2 ⟨rfl, hw2⟩
      have hb2 : Below w.heap.size w w2 := hb.trans (hw2.mono (Nat.le_of_lt hs2))
      have hs3 : w.heap.size < w2.heap.size := Nat.lt_of_lt_of_le hs2 hw2.size
      have HF2 := hide (HF.out.next hw2)
      obtain ⟨p0, d0⟩ := HF2.out.old (j * 12) (by omega)
      obtain ⟨p1, d1⟩ := HF2.out.old (j * 12 + 1) (by omega)
      obtain ⟨p2, d2⟩ := HF2.out.old (j * 12 + 2) (by omega)
      obtain ⟨p3, d3⟩ := HF2.out.old (j * 12 + 3) (by omega)
      obtain ⟨p4, d4⟩ := HF2.out.old (j * 12 + 4) (by omega)
      obtain ⟨p5, d5⟩ := HF2.out.old (j * 12 + 5) (by omega)
      obtain ⟨p6, d6⟩ := HF2.out.old (j * 12 + 6) (by omega)
      obtain ⟨p7, d7⟩ := HF2.out.old (j * 12 + 7) (by omega)
      obtain ⟨p8, d8⟩ := HF2.out.old (j * 12 + 8) (by omega)
      obtain ⟨p9, d9⟩ := HF2.out.old (j * 12 + 9) (by omega)
      obtain ⟨p10, d10⟩ := HF2.out.old (j * 12 + 10) (by omega)
      obtain ⟨p11, d11⟩ := HF2.out.old (j * 12 + 11) (by omega)
      have hz : ∀ o, w2.frozen? ⟨w.heap.size, o, none⟩ = false := HF2.out.frozen
      clear hw2 CT HF
      go_wp2_with fail
      have s0 := HF2.out.step (m := j * 12) (z := x0) (by omega) HX0.out
      have s1 := s0.step (m := j * 12 + 1) (z := x1) (by omega) HX1.out
      have s2 := s1.step (m := j * 12 + 2) (z := x2) (by omega) HX2.out
      have s3 := s2.step (m := j * 12 + 3) (z := x3) (by omega) HX3.out
      have s4 := s3.step (m := j * 12 + 4) (z := x4) (by omega) HX4.out
      have s5 := s4.step (m := j * 12 + 5) (z := x5) (by omega) HX5.out
      have s6 := s5.step (m := j * 12 + 6) (z := x6) (by omega) HX6.out
      have s7 := s6.step (m := j * 12 + 7) (z := x7) (by omega) HX7.out
      have s8 := s7.step (m := j * 12 + 8) (z := x8) (by omega) HX8.out
      have s9 := s8.step (m := j * 12 + 9) (z := x9) (by omega) HX9.out
      have s10 := s9.step (m := j * 12 + 10) (z := x10) (by omega) HX10.out
      have s11 := s10.step (m := j * 12 + 11) (z := x11) (by omega) HX11.out
      exact ⟨⟨j + 1, by omega, by go_num, ((((((((((((hb2.setCell (p := ⟨w.heap.size, j * 12, none⟩) (Nat.le_refl _) _).setCell (p := ⟨w.heap.size, j * 12 + 1, none⟩) (Nat.le_refl _) _).setCell (p := ⟨w.heap.size, j * 12 + 2, none⟩) (Nat.le_refl _) _).setCell (p := ⟨w.heap.size, j * 12 + 3, none⟩) (Nat.le_refl _) _).setCell (p := ⟨w.heap.size, j * 12 + 4, none⟩) (Nat.le_refl _) _).setCell (p := ⟨w.heap.size, j * 12 + 5, none⟩) (Nat.le_refl _) _).setCell (p := ⟨w.heap.size, j * 12 + 6, none⟩) (Nat.le_refl _) _).setCell (p := ⟨w.heap.size, j * 12 + 7, none⟩) (Nat.le_refl _) _).setCell (p := ⟨w.heap.size, j * 12 + 8, none⟩) (Nat.le_refl _) _).setCell (p := ⟨w.heap.size, j * 12 + 9, none⟩) (Nat.le_refl _) _).setCell (p := ⟨w.heap.size, j * 12 + 10, none⟩) (Nat.le_refl _) _).setCell (p := ⟨w.heap.size, j * 12 + 11, none⟩) (Nat.le_refl _) _), by simpa using hs3, hide (by rw [show (j + 1) * 12 = j * 12 + 11 + 1 by omega]; exact s11)⟩, by simp [intOf]; omega⟩
    · have hj' : j = n := by omega
      subst hj'
      go_wp2_with fail
      go_ret
      exact ⟨rfl, HF.out.done HN.out, hb⟩
end Go.Proofs.YtjojeplffefnpaaDoor
