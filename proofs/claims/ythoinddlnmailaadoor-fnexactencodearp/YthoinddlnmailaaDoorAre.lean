/-
Contracts of functions of this seat.
-/
import Derived.Test.YthoinddlnmailaaDoorRows
import Derived.WalkKit
import Derived.ProofKit
import Derived.OpenShut
import Derived.Test.YthoinddlnmailaaDoorArs
namespace Go.Proofs.YthoinddlnmailaaDoor
open Go.ChangeShapes Go.WideShapes Go.ChangeAt Go.RowKit
set_option linter.unusedVariables false
set_option maxRecDepth 100000
set_option maxHeartbeats 1000000 in
theorem specEncA_form (o m s u t : Int) (w : World) (h : arOK o m s u t = false) :
    Calls Tryd.prog 30 #[.agg #[.int .i64 o, .int .i64 m, .int .i64 s, .int .i64 u, .int .i64 t]] w fun e w' => e = .returned (.tuple #[.slice none 0 0, .int .i64 1]) ∧ Below w.heap.size w w' := by
  have hb := BoxA.start w o m s u t 44
  have HB := hide hb
  have CK := hide (fun w => l04OK_walk o m s u t w)
  rw [h] at CK
  obtain ⟨_, _, c0, c1, c2, c3, c4⟩ := hb
  go_enter Tryd.func30, Tryd.ntmps30
  go_wp2_with fail
  refine (CK.out _).mono ?_
  rintro e w1 ⟨rfl, hb1⟩
  go_wp2_with fail
  go_ret2
  exact ⟨rfl, (HB.out.next hb1).1⟩
theorem put4_walk (v : Int) (w : World) (hv : 0 ≤ v) :
    Calls Tryd.prog 63 #[.int .i64 v, .int .i64 4] w fun e w' => ∃ u : Value, e = .returned u ∧ OwnB w' w.heap.size u (putL v 4) ∧ Below w.heap.size w w' := l03Put_walk v 4 w hv (by omega)
set_option maxHeartbeats 8000000 in
theorem specEncA_ok (o m s u t : Int) (w : World) (h : arOK o m s u t = true) :
    Calls Tryd.prog 30 #[.agg #[.int .i64 o, .int .i64 m, .int .i64 s, .int .i64 u, .int .i64 t]] w fun e w' => ∃ v : Value, e = .returned (.tuple #[v, .int .i64 0]) ∧ OwnB w' w.heap.size v (arBody o m s u t) ∧ Below w.heap.size w w' := by
  obtain ⟨ho, hm, hu, hs, ht⟩ := arOK_parts h
  have HO0 : Hid (0 ≤ o) := hide (by omega)
  have HM0 := hide (macOKB_iff.1 hm).1
  have HU0 := hide (macOKB_iff.1 hu).1
  have HS0 := hide (adrB_iff.1 hs).1
  have HT0 := hide (adrB_iff.1 ht).1
  have CK := hide (fun w => l04OK_walk o m s u t w)
  rw [h] at CK
  have HB := hide (BoxA.start w o m s u t 44)
  obtain ⟨_, _, c0, c1, c2, c3, c4⟩ := HB.out
  clear h ho hm hu hs ht
  go_enter Tryd.func30, Tryd.ntmps30
  go_wp2_with fail
  refine (CK.out _).mono ?_
  rintro e w1 ⟨rfl, hb1⟩
  have HB1 := hide (HB.out.next hb1)
  clear HB CK hb1 c0 c1 c2 c3 c4
  go_wp2_with fail
  have HLh : Hid (arHead.length = 6) := hide rfl
  go_cut [4] from 8 to 12 (fun s4 wx => Hid (BoxA w wx o m s u t) ∧ Hid (OwnB wx w.heap.size s4 (arHead ++ putL o 2)))
  case first =>
    go_region_held3 (fun w' => BoxA w w' o m s u t) (first | assumption | exact BoxA.next (by assumption) (by assumption) | exact HB1.out.drew)
      (first
        | (go_at_call 54; refine (l04Head_walk _).mono ?_; rintro e w' ⟨uh, rfl, hOh, hbh⟩)
        | (go_at_call 63; refine (put2_walk o _ HO0.out).mono ?_; rintro e w' ⟨uo, rfl, hOo, hbo⟩; have hOh := hOh.next hbo)
        | (go_at_call 62; refine (l01Join_from _ _ _ _ w.heap.size _ _ _ (BoxA.size (by assumption)) hOh hOo (by rw [HLh.out]; omega) (by rw [putL_len]; omega)).mono ?_; rintro e w' ⟨uj, rfl, hOj, hbj⟩))
    all_goals (go_wp2_with fail; go_meet; exact ⟨hide (by assumption), hide hOj⟩)
  case rest =>
    obtain ⟨HB2, HO⟩ := hcut
    clear HB1
    have HL1 : Hid ((arHead ++ putL o 2).length = 8) := hide (by rw [List.length_append, HLh.out, putL_len])
    have HL2 : Hid ((arHead ++ putL o 2 ++ putL m 6).length = 14) := hide (by rw [List.length_append, HL1.out, putL_len])
    go_upto_region 4 with fail
    go_cut [4] from 13 to 21 (fun s4 wx => Hid (BoxA w wx o m s u t) ∧ Hid (OwnB wx w.heap.size s4 (arHead ++ putL o 2 ++ putL m 6 ++ putL s 4)))
    case first =>
      go_region_held3 (fun w' => BoxA w w' o m s u t) (first | assumption | exact BoxA.next (by assumption) (by assumption) | exact HB2.out.drew)
        (first
          | (go_at_call_of 63 (Value.int IntKind.i64 m); refine (put6_walk m _ HM0.out).mono ?_; rintro e w' ⟨um, rfl, hOm, hbm⟩; have hOx := HO.out.drew.next hbm)
          | (go_at_call_of 63 (Value.int IntKind.i64 s); refine (put4_walk s _ HS0.out).mono ?_; rintro e w' ⟨us, rfl, hOs, hbs⟩; have hOj := hOj.next hbs)
          | (go_at_call 62; refine (l01Join_from _ _ _ _ w.heap.size _ _ _ (BoxA.size (by assumption)) hOj hOs (by rw [HL2.out]; omega) (by rw [putL_len]; omega)).mono ?_; rintro e w' ⟨uk, rfl, hOk, hbk⟩)
          | (go_at_call 62; refine (l01Join_from _ _ _ _ w.heap.size _ _ _ (BoxA.size (by assumption)) hOx hOm (by rw [HL1.out]; omega) (by rw [putL_len]; omega)).mono ?_; rintro e w' ⟨uj, rfl, hOj, hbj⟩))
      all_goals (go_wp2_with fail; go_meet; exact ⟨hide (by assumption), hide hOk⟩)
    case rest =>
      obtain ⟨HB3, HO2⟩ := hcut
      clear HB2 HO
      have HL3 : Hid ((arHead ++ putL o 2 ++ putL m 6 ++ putL s 4).length = 18) := hide (by rw [List.length_append, HL2.out, putL_len])
      have HL4 : Hid ((arHead ++ putL o 2 ++ putL m 6 ++ putL s 4 ++ putL u 6).length = 24) := hide (by rw [List.length_append, HL3.out, putL_len])
      go_upto_region 5 with fail
      go_region_held3 (fun w' => BoxA w w' o m s u t) (first | assumption | exact BoxA.next (by assumption) (by assumption) | exact HB3.out.drew)
        (first
          | (go_at_call_of 63 (Value.int IntKind.i64 u); refine (put6_walk u _ HU0.out).mono ?_; rintro e w' ⟨um, rfl, hOm, hbm⟩; have hOx := HO2.out.drew.next hbm)
          | (go_at_call_of 63 (Value.int IntKind.i64 t); refine (put4_walk t _ HT0.out).mono ?_; rintro e w' ⟨us, rfl, hOs, hbs⟩; have hOj := hOj.next hbs)
          | (go_at_call 62; refine (l01Join_from _ _ _ _ w.heap.size _ _ _ (BoxA.size (by assumption)) hOj hOs (by rw [HL4.out]; omega) (by rw [putL_len]; omega)).mono ?_; rintro e w' ⟨uk, rfl, hOk, hbk⟩)
          | (go_at_call 62; refine (l01Join_from _ _ _ _ w.heap.size _ _ _ (BoxA.size (by assumption)) hOx hOm (by rw [HL3.out]; omega) (by rw [putL_len]; omega)).mono ?_; rintro e w' ⟨uj, rfl, hOj, hbj⟩))
      all_goals go_wp2_with fail
      all_goals go_ret2
      all_goals exact ⟨uk, rfl, hOk, (by assumption : BoxA w _ o m s u t).1⟩
/-- EncodeArp of the specification. -/
theorem specEncA_walk (o m s u t : Int) (w : World) :
    Calls Tryd.prog 30 #[.agg #[.int .i64 o, .int .i64 m, .int .i64 s, .int .i64 u, .int .i64 t]] w fun e w' => ∃ v : Value, e = .returned (.tuple #[v, .int .i64 (arC o m s u t)]) ∧ OwnB w' w.heap.size v (arL o m s u t) ∧ Below w.heap.size w w' := by
  unfold arC arL
  cases h : arOK o m s u t with
  | false =>
    refine (specEncA_form o m s u t w h).mono ?_
    rintro e w' ⟨rfl, hb⟩
    exact ⟨_, rfl, ⟨World.ownsRow_nil _ _ _ _, by simp⟩, hb⟩
  | true => exact specEncA_ok o m s u t w h
end Go.Proofs.YthoinddlnmailaaDoor
