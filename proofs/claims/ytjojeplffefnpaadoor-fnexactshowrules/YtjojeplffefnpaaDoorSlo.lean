/-
Contracts of functions of this seat.
-/
import Derived.Test.YtjojeplffefnpaaDoorRows
import Derived.WalkKit
import Derived.ProofKit
import Derived.OpenShut
import Derived.Test.YtjojeplffefnpaaDoorSrs
import Derived.Test.YtjojeplffefnpaaDoorRlx
namespace Go.Proofs.YtjojeplffefnpaaDoor
open Go.ChangeShapes Go.WideShapes Go.ChangeAt Go.RowKit
set_option linter.unusedVariables false
set_option maxRecDepth 100000
abbrev RuS (w w' : World) (Y : Nat) (x0 x1 x2 x3 x4 x5 x6 x7 x8 x9 x10 x11 : Int) : Prop := Below w.heap.size w w' ∧ HoldV w' Y #[.int .i64 x0, .int .i64 x1, .int .i64 x2, .int .i64 x3, .int .i64 x4, .int .i64 x5, .int .i64 x6, .int .i64 x7, .int .i64 x8, .int .i64 x9, .int .i64 x10, .int .i64 x11] 44 ∧ w'.cell? ⟨Y, 0, none⟩ = some (.int .i64 x0) ∧ w'.cell? ⟨Y, 1, none⟩ = some (.int .i64 x1) ∧ w'.cell? ⟨Y, 2, none⟩ = some (.int .i64 x2) ∧ w'.cell? ⟨Y, 3, none⟩ = some (.int .i64 x3) ∧ w'.cell? ⟨Y, 4, none⟩ = some (.int .i64 x4) ∧ w'.cell? ⟨Y, 5, none⟩ = some (.int .i64 x5) ∧ w'.cell? ⟨Y, 6, none⟩ = some (.int .i64 x6) ∧ w'.cell? ⟨Y, 7, none⟩ = some (.int .i64 x7) ∧ w'.cell? ⟨Y, 8, none⟩ = some (.int .i64 x8) ∧ w'.cell? ⟨Y, 9, none⟩ = some (.int .i64 x9) ∧ w'.cell? ⟨Y, 10, none⟩ = some (.int .i64 x10) ∧ w'.cell? ⟨Y, 11, none⟩ = some (.int .i64 x11)
theorem RuS.of {w w' : World} {Y : Nat} {x0 x1 x2 x3 x4 x5 x6 x7 x8 x9 x10 x11 : Int} (h1 : Below w.heap.size w w') (h2 : HoldV w' Y #[.int .i64 x0, .int .i64 x1, .int .i64 x2, .int .i64 x3, .int .i64 x4, .int .i64 x5, .int .i64 x6, .int .i64 x7, .int .i64 x8, .int .i64 x9, .int .i64 x10, .int .i64 x11] 44) : RuS w w' Y x0 x1 x2 x3 x4 x5 x6 x7 x8 x9 x10 x11 := ⟨h1, h2, h2.cell 0 _ rfl, h2.cell 1 _ rfl, h2.cell 2 _ rfl, h2.cell 3 _ rfl, h2.cell 4 _ rfl, h2.cell 5 _ rfl, h2.cell 6 _ rfl, h2.cell 7 _ rfl, h2.cell 8 _ rfl, h2.cell 9 _ rfl, h2.cell 10 _ rfl, h2.cell 11 _ rfl⟩
theorem RuS.next {w w' w'' : World} {Y : Nat} {x0 x1 x2 x3 x4 x5 x6 x7 x8 x9 x10 x11 : Int} (h : RuS w w' Y x0 x1 x2 x3 x4 x5 x6 x7 x8 x9 x10 x11) (hb : Below w'.heap.size w' w'') : RuS w w'' Y x0 x1 x2 x3 x4 x5 x6 x7 x8 x9 x10 x11 := RuS.of (h.1.trans (hb.mono h.1.size)) (h.2.1.next hb)
set_option maxHeartbeats 16000000 in
theorem specShowR_walk (a : Option Addr) (n cap : Nat) (zs : List Int) (w : World) (hn : zs.length = n * 12) (ha : ArrI w a zs) (hm : n ≤ 1048576) :
    Calls Tryd.prog 6 #[.slice a n cap] w fun e w' => e = .returned (.tuple #[.string (ruS zs n), .int .i64 (ruC zs n)]) ∧ Below w.heap.size w w' := by
  by_cases hbig : 64 < n
  · have E : Hid (ruC zs n = 8) := hide (by unfold ruC; rw [if_pos hbig])
    have E2 : Hid (ruS zs n = ⟨#[]⟩) := hide (by unfold ruS; rw [E.out, if_neg (by decide)])
    have hbi : (64 : Int) < (n : Int) := by omega
    rw [E.out, E2.out]
    clear E E2 ha hn
    go_enter Tryd.func6, Tryd.ntmps6
    go_wp2_with fail
    go_ret2
    exact ⟨rfl, Below.refl _ _⟩
  have hbi : ¬ (64 : Int) < (n : Int) := by omega
  have hn64 : n ≤ 64 := by omega
  have HA := hide ha
  have HN := hide hn
  clear ha hn
  go_enter Tryd.func6, Tryd.ntmps6
  go_wp2_with fail
  go_loopw [4, 5] (fun s t w2 => ∃ k : Nat, k ≤ n ∧ s = .string (ruText zs k) ∧ t = .int .i64 k ∧ Hid ((ruText zs k).size ≤ 110 * k) ∧ Hid (ruAll zs k = true) ∧ Hid (Below w.heap.size w w2)) (fun _ t _ => n - (intOf t).toNat)
  case atStart => exact ⟨0, Nat.zero_le _, rfl, rfl, hide (Nat.le_refl _), hide rfl, hide (Below.refl _ _)⟩
  case round =>
    obtain ⟨k, hk, rfl, rfl, HSZ, HAL, HB⟩ := hrel
    by_cases hlt : k < n
    · obtain ⟨bb, off, ea, hbs, _⟩ := HA.out (k * 12) (by rw [HN.out]; omega)
      subst ea
      have c0 : wr.cell? ⟨bb, off + k * 12, none⟩ = some (.int .i64 (ruAt zs k 0)) := by
        obtain ⟨b', o', e, _, c⟩ := HA.out (k * 12) (by rw [HN.out]; omega)
        cases e
        rw [HB.out.cell (p := ⟨bb, off + k * 12, none⟩) hbs]; exact c
      have c1 : wr.cell? ⟨bb, off + (k * 12 + 1), none⟩ = some (.int .i64 (ruAt zs k 1)) := by
        obtain ⟨b', o', e, _, c⟩ := HA.out ((k * 12 + 1)) (by rw [HN.out]; omega)
        cases e
        rw [HB.out.cell (p := ⟨bb, off + (k * 12 + 1), none⟩) hbs]; exact c
      rw [← Nat.add_assoc] at c1
      have c2 : wr.cell? ⟨bb, off + (k * 12 + 2), none⟩ = some (.int .i64 (ruAt zs k 2)) := by
        obtain ⟨b', o', e, _, c⟩ := HA.out ((k * 12 + 2)) (by rw [HN.out]; omega)
        cases e
        rw [HB.out.cell (p := ⟨bb, off + (k * 12 + 2), none⟩) hbs]; exact c
      rw [← Nat.add_assoc] at c2
      have c3 : wr.cell? ⟨bb, off + (k * 12 + 3), none⟩ = some (.int .i64 (ruAt zs k 3)) := by
        obtain ⟨b', o', e, _, c⟩ := HA.out ((k * 12 + 3)) (by rw [HN.out]; omega)
        cases e
        rw [HB.out.cell (p := ⟨bb, off + (k * 12 + 3), none⟩) hbs]; exact c
      rw [← Nat.add_assoc] at c3
      have c4 : wr.cell? ⟨bb, off + (k * 12 + 4), none⟩ = some (.int .i64 (ruAt zs k 4)) := by
        obtain ⟨b', o', e, _, c⟩ := HA.out ((k * 12 + 4)) (by rw [HN.out]; omega)
        cases e
        rw [HB.out.cell (p := ⟨bb, off + (k * 12 + 4), none⟩) hbs]; exact c
      rw [← Nat.add_assoc] at c4
      have c5 : wr.cell? ⟨bb, off + (k * 12 + 5), none⟩ = some (.int .i64 (ruAt zs k 5)) := by
        obtain ⟨b', o', e, _, c⟩ := HA.out ((k * 12 + 5)) (by rw [HN.out]; omega)
        cases e
        rw [HB.out.cell (p := ⟨bb, off + (k * 12 + 5), none⟩) hbs]; exact c
      rw [← Nat.add_assoc] at c5
      have c6 : wr.cell? ⟨bb, off + (k * 12 + 6), none⟩ = some (.int .i64 (ruAt zs k 6)) := by
        obtain ⟨b', o', e, _, c⟩ := HA.out ((k * 12 + 6)) (by rw [HN.out]; omega)
        cases e
        rw [HB.out.cell (p := ⟨bb, off + (k * 12 + 6), none⟩) hbs]; exact c
      rw [← Nat.add_assoc] at c6
      have c7 : wr.cell? ⟨bb, off + (k * 12 + 7), none⟩ = some (.int .i64 (ruAt zs k 7)) := by
        obtain ⟨b', o', e, _, c⟩ := HA.out ((k * 12 + 7)) (by rw [HN.out]; omega)
        cases e
        rw [HB.out.cell (p := ⟨bb, off + (k * 12 + 7), none⟩) hbs]; exact c
      rw [← Nat.add_assoc] at c7
      have c8 : wr.cell? ⟨bb, off + (k * 12 + 8), none⟩ = some (.int .i64 (ruAt zs k 8)) := by
        obtain ⟨b', o', e, _, c⟩ := HA.out ((k * 12 + 8)) (by rw [HN.out]; omega)
        cases e
        rw [HB.out.cell (p := ⟨bb, off + (k * 12 + 8), none⟩) hbs]; exact c
      rw [← Nat.add_assoc] at c8
      have c9 : wr.cell? ⟨bb, off + (k * 12 + 9), none⟩ = some (.int .i64 (ruAt zs k 9)) := by
        obtain ⟨b', o', e, _, c⟩ := HA.out ((k * 12 + 9)) (by rw [HN.out]; omega)
        cases e
        rw [HB.out.cell (p := ⟨bb, off + (k * 12 + 9), none⟩) hbs]; exact c
      rw [← Nat.add_assoc] at c9
      have c10 : wr.cell? ⟨bb, off + (k * 12 + 10), none⟩ = some (.int .i64 (ruAt zs k 10)) := by
        obtain ⟨b', o', e, _, c⟩ := HA.out ((k * 12 + 10)) (by rw [HN.out]; omega)
        cases e
        rw [HB.out.cell (p := ⟨bb, off + (k * 12 + 10), none⟩) hbs]; exact c
      rw [← Nat.add_assoc] at c10
      have c11 : wr.cell? ⟨bb, off + (k * 12 + 11), none⟩ = some (.int .i64 (ruAt zs k 11)) := by
        obtain ⟨b', o', e, _, c⟩ := HA.out ((k * 12 + 11)) (by rw [HN.out]; omega)
        cases e
        rw [HB.out.cell (p := ⟨bb, off + (k * 12 + 11), none⟩) hbs]; exact c
      rw [← Nat.add_assoc] at c11
      have HOK0 : Hid (ruAll zs (k + 1) = (ruAll zs k && ruOK (ruAt zs k 0) (ruAt zs k 1) (ruAt zs k 2) (ruAt zs k 3) (ruAt zs k 4) (ruAt zs k 5) (ruAt zs k 6) (ruAt zs k 7) (ruAt zs k 8) (ruAt zs k 9) (ruAt zs k 10) (ruAt zs k 11))) := hide rfl
      have HTX0 : Hid (ruText zs (k + 1) = ruStep (ruText zs k) (ruAt zs k 0) (ruAt zs k 1) (ruAt zs k 2) (ruAt zs k 3) (ruAt zs k 4) (ruAt zs k 5) (ruAt zs k 6) (ruAt zs k 7) (ruAt zs k 8) (ruAt zs k 9) (ruAt zs k 10) (ruAt zs k 11)) := hide rfl
      have HMO : Hid (ruOK (ruAt zs k 0) (ruAt zs k 1) (ruAt zs k 2) (ruAt zs k 3) (ruAt zs k 4) (ruAt zs k 5) (ruAt zs k 6) (ruAt zs k 7) (ruAt zs k 8) (ruAt zs k 9) (ruAt zs k 10) (ruAt zs k 11) = false → ruAll zs n = false) := hide (fun e => ruAll_mono hlt e)
      generalize ruAt zs k 0 = x0 at *
      generalize ruAt zs k 1 = x1 at *
      generalize ruAt zs k 2 = x2 at *
      generalize ruAt zs k 3 = x3 at *
      generalize ruAt zs k 4 = x4 at *
      generalize ruAt zs k 5 = x5 at *
      generalize ruAt zs k 6 = x6 at *
      generalize ruAt zs k 7 = x7 at *
      generalize ruAt zs k 8 = x8 at *
      generalize ruAt zs k 9 = x9 at *
      generalize ruAt zs k 10 = x10 at *
      generalize ruAt zs k 11 = x11 at *
      have hal := (Below.refl wr.heap.size wr).alloc (Nat.le_refl _) (.cells #[.int .i64 x0, .int .i64 x1, .int .i64 x2, .int .i64 x3, .int .i64 x4, .int .i64 x5, .int .i64 x6, .int .i64 x7, .int .i64 x8, .int .i64 x9, .int .i64 x10, .int .i64 x11] 44)
      have HB2 := hide (HB.out.trans (hal.mono HB.out.size))
      have HR2 : Hid (HoldV (wr.alloc (.cells #[.int .i64 x0, .int .i64 x1, .int .i64 x2, .int .i64 x3, .int .i64 x4, .int .i64 x5, .int .i64 x6, .int .i64 x7, .int .i64 x8, .int .i64 x9, .int .i64 x10, .int .i64 x11] 44)) wr.heap.size #[.int .i64 x0, .int .i64 x1, .int .i64 x2, .int .i64 x3, .int .i64 x4, .int .i64 x5, .int .i64 x6, .int .i64 x7, .int .i64 x8, .int .i64 x9, .int .i64 x10, .int .i64 x11] 44) := hide (heap_alloc_new _ _)
      have HF := hide (fun W => specRuOK_walk x0 x1 x2 x3 x4 x5 x6 x7 x8 x9 x10 x11 W)
      clear hal HB
      go_wp2_with fail
      generalize hV2 : wr.alloc (.cells #[.int .i64 x0, .int .i64 x1, .int .i64 x2, .int .i64 x3, .int .i64 x4, .int .i64 x5, .int .i64 x6, .int .i64 x7, .int .i64 x8, .int .i64 x9, .int .i64 x10, .int .i64 x11] 44) = V2 at *
      clear hV2 c0 c1 c2 c3 c4 c5 c6 c7 c8 c9 c10 c11
      generalize wr.heap.size = Y at *
      refine (HF.out V2).mono ?_
      rintro e V3 ⟨rfl, hb3⟩
      have HB3 := hide (HB2.out.trans (hb3.mono HB2.out.size))
      have HR3 := hide (HR2.out.next hb3)
      clear hb3 HB2 HR2 HF
      cases hok : ruOK x0 x1 x2 x3 x4 x5 x6 x7 x8 x9 x10 x11 with
      | false =>
        have E : Hid (ruC zs n = 1) := hide (by unfold ruC; rw [if_neg hbig, HMO.out hok]; rfl)
        have E2 : Hid (ruS zs n = ⟨#[]⟩) := hide (by unfold ruS; rw [E.out, if_neg (by decide)])
        go_wp2_with fail
        go_ret2
        exact ⟨by rw [E.out, E2.out]; rfl, HB3.out⟩
      | true =>
        obtain ⟨pA, pD, pS, pp, pq, ps, pd, pP⟩ := ruOK_parts hok
        have HAL2 : Hid (ruAll zs (k + 1) = true) := hide (by rw [HOK0.out, HAL.out, hok]; rfl)
        have HSZ2 : Hid ((ruText zs (k + 1)).size ≤ 110 * (k + 1)) := hide (by rw [HTX0.out]; have h1 := ruStep_size (ruText zs k) hok; have h2 := HSZ.out; omega)
        have CA := hide (fun W => specWordAct x0 pA W)
        have CD := hide (fun W => specWordDir x1 pD W)
        have CP := hide (fun W => specProto x2 W)
        have CX := hide (fun W => specSide x3 x4 x5 x6 W pp ps)
        have CY := hide (fun W => specSide x7 x8 x9 x10 W pq pd)
        have z0 : (ruText zs k).size ≤ 7040 := by have := HSZ.out; omega
        have z1 := actW_size x0
        have z2 := dirW_size x1
        have z3 := protW_size x2
        have z4 := sideT_size (a := x3) (b := x4) ps
        have z5 := sideT_size (a := x7) (b := x8) pd
        have z6 := staW_size x11
        have HTX : Hid (ruText zs (k + 1) = (if x11 = 0 then ruText zs k ++ actW x0 ++ sSp ++ dirW x1 ++ sSp ++ protW x2 ++ sFrom ++ sideT x3 x4 x5 x6 ++ sTo ++ sideT x7 x8 x9 x10 else ruText zs k ++ actW x0 ++ sSp ++ dirW x1 ++ sSp ++ protW x2 ++ sFrom ++ sideT x3 x4 x5 x6 ++ sTo ++ sideT x7 x8 x9 x10 ++ sSp ++ staW x11) ++ sNl1) := HTX0
        clear HTX0 HOK0 HMO HSZ HAL hok pA pD pp pq ps pd pP
        generalize ruText zs k = o0 at *
        generalize actW x0 = t1 at *
        generalize dirW x1 = t2 at *
        generalize protW x2 = t3 at *
        generalize sideT x3 x4 x5 x6 = t4 at *
        generalize sideT x7 x8 x9 x10 = t5 at *
        have e1 : sSp.size = 1 := rfl
        have e2 : sFrom.size = 6 := rfl
        have e3 : sTo.size = 4 := rfl
        have e4 : sNl1.size = 1 := rfl
        by_cases hS : x11 = 0
        · rw [if_pos hS] at HTX
          have hSb : (x11 != 0) = false := by rw [hS]; rfl
          clear hS pS z6
          have HK : Hid (RuS w V3 Y x0 x1 x2 x3 x4 x5 x6 x7 x8 x9 x10 x11) := hide (RuS.of HB3.out HR3.out)
          have r0 := HR3.out.cell 0 _ rfl
          clear r0
          go_wp2_with fail
          have hK := RuS.next HK.out ((Below.refl _ _).drew)
          clear HK HB3 HR3
          refine wp_region_lex (fun w' => RuS w w' Y x0 x1 x2 x3 x4 x5 x6 x7 x8 x9 x10 x11) ((0, true) :: (1, true) :: (2, true) :: (6, true) :: (7, true) :: (11, true) :: (12, true) :: (16, true) :: (17, true) :: (18, true) :: (19, true) :: (20, true) :: (21, true) :: (25, true) :: (26, true) :: (27, true) :: (28, true) :: (29, true) :: (30, true) :: (3, false) :: (4, true) :: (5, true) :: (8, false) :: (9, true) :: (10, true) :: (13, false) :: (14, true) :: (15, true) :: (22, false) :: (23, true) :: (24, true) :: (31, false) :: (32, true) :: (33, true) :: []) (by kernel_rfl) (by kernel_rfl) (by kernel_rfl) rfl hK ?_
          repeat (first
            | (refine wpLex_take ?_ rfl (by rfl) (fun _ _ _ h => h) ?_ ?_; rotate_left; (intro wq hSw; (try dsimp only at hSw); first | (go_simp; done) | (go_simp; with_reducible rfl) | (go_simp; rw [if_neg (by (try simp only [ByteArray.size_append]); omega)])); simp only [Act.put, List.setIfInBounds_toArray, List.set_cons_zero, List.set_cons_succ])
            | (refine wpLex_act rfl (by rfl) ?_; intro KK hKK; go_simp; (first
              | (go_at_call 18; refine (CA.out _).mono ?_; clear CA; rintro e w' ⟨rfl, hbx⟩; have hK := RuS.next hK hbx; clear hbx)
              | (go_at_call 18; refine (CD.out _).mono ?_; clear CD; rintro e w' ⟨rfl, hbx⟩; have hK := RuS.next hK hbx; clear hbx)
              | (go_at_call 19; refine (CP.out _).mono ?_; clear CP; rintro e w' ⟨rfl, rfl⟩)
              | (go_at_call 20; refine (CX.out _).mono ?_; clear CX; rintro e w' ⟨rfl, hbx⟩; have hK := RuS.next hK hbx; clear hbx)
              | (go_at_call 20; refine (CY.out _).mono ?_; clear CY; rintro e w' ⟨rfl, hbx⟩; have hK := RuS.next hK hbx; clear hbx)); (try go_wp2_with fail); refine hKK.out _ _ hK ?_; clear hKK KK; try simp only [Act.put, List.setIfInBounds_toArray, List.set_cons_zero, List.set_cons_succ]))
          refine wpLex_nil ?_
          have k11 := hK.2.2.2.2.2.2.2.2.2.2.2.2.2
          go_wp2_with fail
          exact ⟨⟨k + 1, by omega, by rw [HTX.out], by go_num, HSZ2, HAL2, hide hK.1⟩, by simp [intOf]; omega⟩
        · rw [if_neg hS] at HTX
          have hSb : (x11 != 0) = true := by simpa using hS
          have CS := hide (fun W => specWordSta x11 (by omega) W)
          generalize staW x11 = t6 at *
          clear hS pS
          have HK : Hid (RuS w V3 Y x0 x1 x2 x3 x4 x5 x6 x7 x8 x9 x10 x11) := hide (RuS.of HB3.out HR3.out)
          have r0 := HR3.out.cell 0 _ rfl
          clear r0
          go_wp2_with fail
          have hK := RuS.next HK.out ((Below.refl _ _).drew)
          clear HK HB3 HR3
          refine wp_region_lex (fun w' => RuS w w' Y x0 x1 x2 x3 x4 x5 x6 x7 x8 x9 x10 x11) ((0, true) :: (1, true) :: (2, true) :: (6, true) :: (7, true) :: (11, true) :: (12, true) :: (16, true) :: (17, true) :: (18, true) :: (19, true) :: (20, true) :: (21, true) :: (25, true) :: (26, true) :: (27, true) :: (28, true) :: (29, true) :: (30, true) :: (3, false) :: (4, true) :: (5, true) :: (8, false) :: (9, true) :: (10, true) :: (13, false) :: (14, true) :: (15, true) :: (22, false) :: (23, true) :: (24, true) :: (31, false) :: (32, true) :: (33, true) :: []) (by kernel_rfl) (by kernel_rfl) (by kernel_rfl) rfl hK ?_
          repeat (first
            | (refine wpLex_take ?_ rfl (by rfl) (fun _ _ _ h => h) ?_ ?_; rotate_left; (intro wq hSw; (try dsimp only at hSw); first | (go_simp; done) | (go_simp; with_reducible rfl) | (go_simp; rw [if_neg (by (try simp only [ByteArray.size_append]); omega)])); simp only [Act.put, List.setIfInBounds_toArray, List.set_cons_zero, List.set_cons_succ])
            | (refine wpLex_act rfl (by rfl) ?_; intro KK hKK; go_simp; (first
              | (go_at_call 18; refine (CA.out _).mono ?_; clear CA; rintro e w' ⟨rfl, hbx⟩; have hK := RuS.next hK hbx; clear hbx)
              | (go_at_call 18; refine (CD.out _).mono ?_; clear CD; rintro e w' ⟨rfl, hbx⟩; have hK := RuS.next hK hbx; clear hbx)
              | (go_at_call 19; refine (CP.out _).mono ?_; clear CP; rintro e w' ⟨rfl, rfl⟩)
              | (go_at_call 20; refine (CX.out _).mono ?_; clear CX; rintro e w' ⟨rfl, hbx⟩; have hK := RuS.next hK hbx; clear hbx)
              | (go_at_call 20; refine (CY.out _).mono ?_; clear CY; rintro e w' ⟨rfl, hbx⟩; have hK := RuS.next hK hbx; clear hbx)); (try go_wp2_with fail); refine hKK.out _ _ hK ?_; clear hKK KK; try simp only [Act.put, List.setIfInBounds_toArray, List.set_cons_zero, List.set_cons_succ]))
          refine wpLex_nil ?_
          have k11 := hK.2.2.2.2.2.2.2.2.2.2.2.2.2
          go_wp2_with (first | (go_at_call 18; refine (CS.out _).mono ?_; clear CS; rintro e w' ⟨rfl, hbx⟩; have hK := RuS.next hK hbx; clear hbx))
          exact ⟨⟨k + 1, by omega, by rw [HTX.out], by go_num, HSZ2, HAL2, hide hK.1⟩, by simp [intOf]; omega⟩
    · have hkn : k = n := by omega
      subst hkn
      have E : Hid (ruC zs k = 0) := hide (by unfold ruC; rw [if_neg hbig, HAL.out]; rfl)
      have E2 : Hid (ruS zs k = ruText zs k) := hide (by unfold ruS; rw [E.out, if_pos rfl])
      go_wp2_with fail
      go_ret2
      exact ⟨by rw [E.out, E2.out]; rfl, HB.out⟩
end Go.Proofs.YtjojeplffefnpaaDoor
