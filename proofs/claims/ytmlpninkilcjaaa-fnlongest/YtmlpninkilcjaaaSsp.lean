/-
Contracts of functions of this seat.
-/
import Derived.Test.YtmlpninkilcjaaaRows
import Derived.WalkKit
import Derived.ProofKit
import Derived.OpenShut
import Derived.Test.YtmlpninkilcjaaaShm
import Derived.Test.YtmlpninkilcjaaaTrt
namespace Go.Proofs.Ytmlpninkilcjaaa
open Go.ChangeShapes Go.WideShapes Go.ChangeAt Go.RowKit
set_option linter.unusedVariables false
set_option maxRecDepth 100000
set_option maxHeartbeats 16000000 in
theorem specShow_walk (a : Option Addr) (n cap : Nat) (zs : List Int) (w : World) (hn : zs.length = n * 5) (ha : ArrI w a zs) (hm : n ≤ 1048576) :
    Calls Try.prog 13 #[.slice a n cap] w fun e w' => e = .returned (.tuple #[.string (srS zs n), .int .i64 (srC zs n)]) ∧ Below w.heap.size w w' := by
  by_cases hbig : 64 < n
  · have E : Hid (srC zs n = 8) := hide (by unfold srC; rw [if_pos hbig])
    have E2 : Hid (srS zs n = ⟨#[]⟩) := hide (by unfold srS; rw [E.out, if_neg (by decide)])
    have hbi : (64 : Int) < (n : Int) := by omega
    rw [E.out, E2.out]
    clear E E2 ha hn
    go_enter Try.func13, Try.ntmps13
    go_wp2_with fail
    go_ret2
    exact ⟨rfl, Below.refl _ _⟩
  have hbi : ¬ (64 : Int) < (n : Int) := by omega
  have hn64 : n ≤ 64 := by omega
  have HA := hide ha
  have HN := hide hn
  clear ha hn
  go_enter Try.func13, Try.ntmps13
  go_wp2_with fail
  go_loopw [4, 5] (fun s t w2 => ∃ k : Nat, k ≤ n ∧ s = .string (srText zs k) ∧ t = .int .i64 k ∧ Hid ((srText zs k).size ≤ 94 * k) ∧ Hid (srAll zs k = true) ∧ Hid (Below w.heap.size w w2)) (fun _ t _ => n - (intOf t).toNat)
  case atStart => exact ⟨0, Nat.zero_le _, rfl, rfl, hide (Nat.le_refl _), hide rfl, hide (Below.refl _ _)⟩
  case round =>
    obtain ⟨k, hk, rfl, rfl, HSZ, HAL, HB⟩ := hrel
    by_cases hlt : k < n
    · obtain ⟨bb, off, ea, hbs, _⟩ := HA.out (k * 5) (by rw [HN.out]; omega)
      subst ea
      have c0 : wr.cell? ⟨bb, off + k * 5, none⟩ = some (.int .i64 (rA zs k)) := by
        obtain ⟨b', o', e, _, c⟩ := HA.out (k * 5) (by rw [HN.out]; omega)
        cases e
        rw [HB.out.cell (p := ⟨bb, off + k * 5, none⟩) hbs]; exact c
      have c1 : wr.cell? ⟨bb, off + (k * 5 + 1), none⟩ = some (.int .i64 (rB zs k)) := by
        obtain ⟨b', o', e, _, c⟩ := HA.out ((k * 5 + 1)) (by rw [HN.out]; omega)
        cases e
        rw [HB.out.cell (p := ⟨bb, off + (k * 5 + 1), none⟩) hbs]; exact c
      rw [← Nat.add_assoc] at c1
      have c2 : wr.cell? ⟨bb, off + (k * 5 + 2), none⟩ = some (.int .i64 (rV zs k)) := by
        obtain ⟨b', o', e, _, c⟩ := HA.out ((k * 5 + 2)) (by rw [HN.out]; omega)
        cases e
        rw [HB.out.cell (p := ⟨bb, off + (k * 5 + 2), none⟩) hbs]; exact c
      rw [← Nat.add_assoc] at c2
      have c3 : wr.cell? ⟨bb, off + (k * 5 + 3), none⟩ = some (.int .i64 (rL zs k)) := by
        obtain ⟨b', o', e, _, c⟩ := HA.out ((k * 5 + 3)) (by rw [HN.out]; omega)
        cases e
        rw [HB.out.cell (p := ⟨bb, off + (k * 5 + 3), none⟩) hbs]; exact c
      rw [← Nat.add_assoc] at c3
      have c4 : wr.cell? ⟨bb, off + (k * 5 + 4), none⟩ = some (.int .i64 (rM zs k)) := by
        obtain ⟨b', o', e, _, c⟩ := HA.out ((k * 5 + 4)) (by rw [HN.out]; omega)
        cases e
        rw [HB.out.cell (p := ⟨bb, off + (k * 5 + 4), none⟩) hbs]; exact c
      rw [← Nat.add_assoc] at c4
      have hal := (Below.refl wr.heap.size wr).alloc (Nat.le_refl _) (.cells #[.int .i64 (rA zs k), .int .i64 (rB zs k), .int .i64 (rV zs k), .int .i64 (rL zs k), .int .i64 (rM zs k)] 27)
      have HB2 := hide (HB.out.trans (hal.mono HB.out.size))
      have HR2 : Hid (HoldV (wr.alloc (.cells #[.int .i64 (rA zs k), .int .i64 (rB zs k), .int .i64 (rV zs k), .int .i64 (rL zs k), .int .i64 (rM zs k)] 27)) wr.heap.size #[.int .i64 (rA zs k), .int .i64 (rB zs k), .int .i64 (rV zs k), .int .i64 (rL zs k), .int .i64 (rM zs k)] 27) := hide (heap_alloc_new _ _)
      clear hal HB
      go_wp2_with fail
      generalize hV2 : wr.alloc (.cells #[.int .i64 (rA zs k), .int .i64 (rB zs k), .int .i64 (rV zs k), .int .i64 (rL zs k), .int .i64 (rM zs k)] 27) = V2 at *
      clear hV2 c0 c1 c2 c3 c4
      generalize wr.heap.size = Y at *
      refine (specROK_walk _ _ _ _ _ V2).mono ?_
      rintro e V3 ⟨rfl, hb3⟩
      have HB3 := hide (HB2.out.trans (hb3.mono HB2.out.size))
      have HR3 := hide (HR2.out.next hb3)
      clear hb3 HB2 HR2
      have r0 := HR3.out.cell 0 _ rfl
      have r1 := HR3.out.cell 1 _ rfl
      cases hok : rtOK (rA zs k) (rB zs k) (rV zs k) (rL zs k) (rM zs k) with
      | false =>
        have E : Hid (srC zs n = 1) := hide (by unfold srC; rw [if_neg hbig, srAll_mono hlt hok]; rfl)
        have E2 : Hid (srS zs n = ⟨#[]⟩) := hide (by unfold srS; rw [E.out, if_neg (by decide)])
        go_wp2_with fail
        go_ret2
        exact ⟨by rw [E.out, E2.out]; rfl, HB3.out⟩
      | true =>
        obtain ⟨p1, p2, p3, p4⟩ := rtOK_parts hok
        have HAL2 : Hid (srAll zs (k + 1) = true) := hide (by show (srAll zs k && _) = true; rw [HAL.out, hok]; rfl)
        have t6 : (10 : Nat) ^ (5 + 1) = 1000000 := by decide
        have t7 : (10 : Nat) ^ (6 + 1) = 10000000 := by decide
        have C1 := hide (fun w => specShowP_yes (rA zs k) (rB zs k) w p1)
        have C3 := hide (fun w => decG_walk 5 (rL zs k).toNat (by rw [t6]; omega) (by omega) w)
        have C4 := hide (fun w => decG_walk 6 (rM zs k).toNat (by rw [t7]; omega) (by omega) w)
        rw [show (((rL zs k).toNat : Nat) : Int) = rL zs k by omega] at C3
        rw [show (((rM zs k).toNat : Nat) : Int) = rM zs k by omega] at C4
        have z1 := showP_size (rA zs k) (rB zs k)
        have z2 := showA_size (rV zs k)
        have z3 := decG_size 5 (rL zs k).toNat (by rw [t6]; omega)
        have z4 := decG_size 6 (rM zs k).toNat (by rw [t7]; omega)
        clear t6 t7
        have z0 : (srText zs k).size ≤ 6016 := by have := HSZ.out; omega
        by_cases hv : rV zs k = 0
        · have hvb : (rV zs k != 0) = false := by rw [hv]; rfl
          by_cases hm0 : rM zs k = 0
          · have hmb : (rM zs k != 0) = false := by rw [hm0]; rfl
            have HST : Hid (srText zs (k + 1) = srText zs k ++ showP (rA zs k) (rB zs k) ++ sLink ++ decG (rL zs k).toNat ++ sNl) := hide (by show srStep _ _ _ _ _ _ = _; unfold srStep srV srM; rw [if_pos hv, if_pos hm0])
            have HSZ2 : Hid ((srText zs (k + 1)).size ≤ 94 * (k + 1)) := hide (by
              rw [HST.out]
              simp only [ByteArray.size_append]
              have e1 : sVia.size = 5 := rfl
              have e2 : sLink.size = 6 := rfl
              have e3 : sMetric.size = 8 := rfl
              have e4 : sNl.size = 1 := rfl
              have := HSZ.out
              omega)
            generalize srText zs k = o0 at *
            generalize showP (rA zs k) (rB zs k) = t1 at *
            generalize showA (rV zs k) = t2 at *
            generalize decG (rL zs k).toNat = t3 at *
            generalize decG (rM zs k).toNat = t4 at *
            clear HSZ HAL hok p1 p2 hv hm0
            go_wp2_with fail
            refine (C1.out _).mono ?_
            rintro e V4 ⟨rfl, hb4⟩
            have HB4 := hide (HB3.out.trans (hb4.mono HB3.out.size))
            have HR4 := hide (HR3.out.next hb4)
            clear hb4 HB3 HR3 r0 r1
            have r2 := HR4.out.cell 2 _ rfl
            have r3 := HR4.out.cell 3 _ rfl
            have r4 := HR4.out.cell 4 _ rfl
            go_wp2_with fail
            refine (C3.out _).mono ?_
            rintro e V6 ⟨rfl, hb6⟩
            have HB6 := hide (HB4.out.trans (hb6.mono HB4.out.size))
            have HR6 := hide (HR4.out.next hb6)
            clear hb6 HB4 HR4 r2 r3 r4
            have r4 := HR6.out.cell 4 _ rfl
            go_wp2_with fail
            exact ⟨⟨k + 1, by omega, by rw [HST.out], by go_num, HSZ2, HAL2, HB6⟩, by simp [intOf]; omega⟩
          · have hmb : (rM zs k != 0) = true := by simpa using hm0
            have HST : Hid (srText zs (k + 1) = srText zs k ++ showP (rA zs k) (rB zs k) ++ sLink ++ decG (rL zs k).toNat ++ sMetric ++ decG (rM zs k).toNat ++ sNl) := hide (by show srStep _ _ _ _ _ _ = _; unfold srStep srV srM; rw [if_pos hv, if_neg hm0])
            have HSZ2 : Hid ((srText zs (k + 1)).size ≤ 94 * (k + 1)) := hide (by
              rw [HST.out]
              simp only [ByteArray.size_append]
              have e1 : sVia.size = 5 := rfl
              have e2 : sLink.size = 6 := rfl
              have e3 : sMetric.size = 8 := rfl
              have e4 : sNl.size = 1 := rfl
              have := HSZ.out
              omega)
            generalize srText zs k = o0 at *
            generalize showP (rA zs k) (rB zs k) = t1 at *
            generalize showA (rV zs k) = t2 at *
            generalize decG (rL zs k).toNat = t3 at *
            generalize decG (rM zs k).toNat = t4 at *
            clear HSZ HAL hok p1 p2 hv hm0
            go_wp2_with fail
            refine (C1.out _).mono ?_
            rintro e V4 ⟨rfl, hb4⟩
            have HB4 := hide (HB3.out.trans (hb4.mono HB3.out.size))
            have HR4 := hide (HR3.out.next hb4)
            clear hb4 HB3 HR3 r0 r1
            have r2 := HR4.out.cell 2 _ rfl
            have r3 := HR4.out.cell 3 _ rfl
            have r4 := HR4.out.cell 4 _ rfl
            go_wp2_with fail
            refine (C3.out _).mono ?_
            rintro e V6 ⟨rfl, hb6⟩
            have HB6 := hide (HB4.out.trans (hb6.mono HB4.out.size))
            have HR6 := hide (HR4.out.next hb6)
            clear hb6 HB4 HR4 r2 r3 r4
            have r4 := HR6.out.cell 4 _ rfl
            go_wp2_with fail
            refine (C4.out _).mono ?_
            rintro e V7 ⟨rfl, hb7⟩
            have HB7 := hide (HB6.out.trans (hb7.mono HB6.out.size))
            clear hb7 HB6 HR6 r4
            go_wp2_with fail
            exact ⟨⟨k + 1, by omega, by rw [HST.out], by go_num, HSZ2, HAL2, HB7⟩, by simp [intOf]; omega⟩
        · have hvb : (rV zs k != 0) = true := by simpa using hv
          have C2 := hide (fun w => specShowA_yes (rV zs k) w (p2 hv))
          by_cases hm0 : rM zs k = 0
          · have hmb : (rM zs k != 0) = false := by rw [hm0]; rfl
            have HST : Hid (srText zs (k + 1) = srText zs k ++ showP (rA zs k) (rB zs k) ++ sVia ++ showA (rV zs k) ++ sLink ++ decG (rL zs k).toNat ++ sNl) := hide (by show srStep _ _ _ _ _ _ = _; unfold srStep srV srM; rw [if_neg hv, if_pos hm0])
            have HSZ2 : Hid ((srText zs (k + 1)).size ≤ 94 * (k + 1)) := hide (by
              rw [HST.out]
              simp only [ByteArray.size_append]
              have e1 : sVia.size = 5 := rfl
              have e2 : sLink.size = 6 := rfl
              have e3 : sMetric.size = 8 := rfl
              have e4 : sNl.size = 1 := rfl
              have := HSZ.out
              omega)
            generalize srText zs k = o0 at *
            generalize showP (rA zs k) (rB zs k) = t1 at *
            generalize showA (rV zs k) = t2 at *
            generalize decG (rL zs k).toNat = t3 at *
            generalize decG (rM zs k).toNat = t4 at *
            clear HSZ HAL hok p1 p2 hv hm0
            go_wp2_with fail
            refine (C1.out _).mono ?_
            rintro e V4 ⟨rfl, hb4⟩
            have HB4 := hide (HB3.out.trans (hb4.mono HB3.out.size))
            have HR4 := hide (HR3.out.next hb4)
            clear hb4 HB3 HR3 r0 r1
            have r2 := HR4.out.cell 2 _ rfl
            have r3 := HR4.out.cell 3 _ rfl
            have r4 := HR4.out.cell 4 _ rfl
            go_wp2_with fail
            refine (C2.out _).mono ?_
            rintro e V5 ⟨rfl, hb5⟩
            have HB5 := hide (HB4.out.trans (hb5.mono HB4.out.size))
            have HR5 := hide (HR4.out.next hb5)
            clear hb5 HB4 HR4 r2 r3 r4
            have r2 := HR5.out.cell 2 _ rfl
            have r3 := HR5.out.cell 3 _ rfl
            have r4 := HR5.out.cell 4 _ rfl
            go_wp2_with fail
            refine (C3.out _).mono ?_
            rintro e V6 ⟨rfl, hb6⟩
            have HB6 := hide (HB5.out.trans (hb6.mono HB5.out.size))
            have HR6 := hide (HR5.out.next hb6)
            clear hb6 HB5 HR5 r2 r3 r4
            have r4 := HR6.out.cell 4 _ rfl
            go_wp2_with fail
            exact ⟨⟨k + 1, by omega, by rw [HST.out], by go_num, HSZ2, HAL2, HB6⟩, by simp [intOf]; omega⟩
          · have hmb : (rM zs k != 0) = true := by simpa using hm0
            have HST : Hid (srText zs (k + 1) = srText zs k ++ showP (rA zs k) (rB zs k) ++ sVia ++ showA (rV zs k) ++ sLink ++ decG (rL zs k).toNat ++ sMetric ++ decG (rM zs k).toNat ++ sNl) := hide (by show srStep _ _ _ _ _ _ = _; unfold srStep srV srM; rw [if_neg hv, if_neg hm0])
            have HSZ2 : Hid ((srText zs (k + 1)).size ≤ 94 * (k + 1)) := hide (by
              rw [HST.out]
              simp only [ByteArray.size_append]
              have e1 : sVia.size = 5 := rfl
              have e2 : sLink.size = 6 := rfl
              have e3 : sMetric.size = 8 := rfl
              have e4 : sNl.size = 1 := rfl
              have := HSZ.out
              omega)
            generalize srText zs k = o0 at *
            generalize showP (rA zs k) (rB zs k) = t1 at *
            generalize showA (rV zs k) = t2 at *
            generalize decG (rL zs k).toNat = t3 at *
            generalize decG (rM zs k).toNat = t4 at *
            clear HSZ HAL hok p1 p2 hv hm0
            go_wp2_with fail
            refine (C1.out _).mono ?_
            rintro e V4 ⟨rfl, hb4⟩
            have HB4 := hide (HB3.out.trans (hb4.mono HB3.out.size))
            have HR4 := hide (HR3.out.next hb4)
            clear hb4 HB3 HR3 r0 r1
            have r2 := HR4.out.cell 2 _ rfl
            have r3 := HR4.out.cell 3 _ rfl
            have r4 := HR4.out.cell 4 _ rfl
            go_wp2_with fail
            refine (C2.out _).mono ?_
            rintro e V5 ⟨rfl, hb5⟩
            have HB5 := hide (HB4.out.trans (hb5.mono HB4.out.size))
            have HR5 := hide (HR4.out.next hb5)
            clear hb5 HB4 HR4 r2 r3 r4
            have r2 := HR5.out.cell 2 _ rfl
            have r3 := HR5.out.cell 3 _ rfl
            have r4 := HR5.out.cell 4 _ rfl
            go_wp2_with fail
            refine (C3.out _).mono ?_
            rintro e V6 ⟨rfl, hb6⟩
            have HB6 := hide (HB5.out.trans (hb6.mono HB5.out.size))
            have HR6 := hide (HR5.out.next hb6)
            clear hb6 HB5 HR5 r2 r3 r4
            have r4 := HR6.out.cell 4 _ rfl
            go_wp2_with fail
            refine (C4.out _).mono ?_
            rintro e V7 ⟨rfl, hb7⟩
            have HB7 := hide (HB6.out.trans (hb7.mono HB6.out.size))
            clear hb7 HB6 HR6 r4
            go_wp2_with fail
            exact ⟨⟨k + 1, by omega, by rw [HST.out], by go_num, HSZ2, HAL2, HB7⟩, by simp [intOf]; omega⟩
    · have hkn : k = n := by omega
      subst hkn
      have E : Hid (srC zs k = 0) := hide (by unfold srC; rw [if_neg hbig, HAL.out]; rfl)
      have E2 : Hid (srS zs k = srText zs k) := hide (by unfold srS; rw [E.out, if_pos rfl])
      go_wp2_with fail
      go_ret2
      exact ⟨by rw [E.out, E2.out]; rfl, HB.out⟩
end Go.Proofs.Ytmlpninkilcjaaa
