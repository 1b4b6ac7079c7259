/-
Contracts of functions of this seat.
-/
import Derived.Test.YthoinddlnmailaaDoorRows
import Derived.WalkKit
import Derived.ProofKit
import Derived.OpenShut
import Derived.Test.YthoinddlnmailaaDoorAns
import Derived.Test.YthoinddlnmailaaDoorArs
import Derived.Deep.RegionHeld3
namespace Go.Proofs.YthoinddlnmailaaDoor
open Go.ChangeShapes Go.WideShapes Go.ChangeAt Go.RowKit
set_option linter.unusedVariables false
set_option maxRecDepth 100000
theorem isMac_walk (a : Int) (w : World) :
    Calls Tryd.prog 38 #[.int .i64 a] w fun e w' => e = .returned (.bool (macOKB a)) ∧ w' = w := by
  by_cases h1 : 0 ≤ a
  · by_cases h2 : a ≤ 281474976710655
    · have e := hide (macOKB_iff.2 ⟨h1, h2⟩)
      go_enter Tryd.func38, Tryd.ntmps38
      go_wp2
      go_ret
      exact ⟨ret_bool e.out.symm, rfl⟩
    · have e : Hid (macOKB a = false) := hide (by unfold macOKB; simp; omega)
      go_enter Tryd.func38, Tryd.ntmps38
      go_wp2
      go_ret
      exact ⟨ret_bool e.out.symm, rfl⟩
  · have e : Hid (macOKB a = false) := hide (by unfold macOKB; simp; omega)
    go_enter Tryd.func38, Tryd.ntmps38
    go_wp2
    go_ret
    exact ⟨ret_bool e.out.symm, rfl⟩

theorem isAddr_walk (a : Int) (w : World) :
    Calls Tryd.prog 82 #[.int .i64 a] w fun e w' => e = .returned (.bool (adrB a)) ∧ w' = w := by
  by_cases h1 : 0 ≤ a
  · by_cases h2 : a ≤ 4294967295
    · have e := hide (adrB_iff.2 ⟨h1, h2⟩)
      go_enter Tryd.func82, Tryd.ntmps82
      go_wp2
      go_ret
      exact ⟨ret_bool e.out.symm, rfl⟩
    · have e : Hid (adrB a = false) := hide (by unfold adrB; simp; omega)
      go_enter Tryd.func82, Tryd.ntmps82
      go_wp2
      go_ret
      exact ⟨ret_bool e.out.symm, rfl⟩
  · have e : Hid (adrB a = false) := hide (by unfold adrB; simp; omega)
    go_enter Tryd.func82, Tryd.ntmps82
    go_wp2
    go_ret
    exact ⟨ret_bool e.out.symm, rfl⟩

theorem arBody_bd (o m s u t : Int) : ∀ z ∈ arBody o m s u t, 0 ≤ z ∧ z ≤ 255 := by
  intro z hz
  unfold arBody at hz
  simp only [List.mem_append] at hz
  rcases hz with ((((hz | hz) | hz) | hz) | hz) | hz
  · unfold arHead at hz; simp only [List.mem_cons, List.not_mem_nil, or_false] at hz; omega
  all_goals exact putL_bd _ _ z hz
def opB (o : Int) : Bool := decide (o = 1) || decide (o = 2)
theorem isArpOp_walk (x : Int) (w : World) : Calls Tryd.prog 56 #[.int .i64 x] w fun e w' => e = .returned (.bool (opB x)) ∧ w' = w := by
  by_cases h1 : x = 1
  · subst h1
    go_enter Tryd.func56, Tryd.ntmps56
    go_wp2
    go_ret
    exact ⟨rfl, rfl⟩
  · by_cases h2 : x = 2
    · subst h2
      go_enter Tryd.func56, Tryd.ntmps56
      go_wp2
      go_ret
      exact ⟨rfl, rfl⟩
    · have e : Hid (opB x = false) := hide (by unfold opB; simp [h1, h2])
      go_enter Tryd.func56, Tryd.ntmps56
      go_wp2
      go_ret
      exact ⟨ret_bool (by rw [e.out]; simp [h1, h2]), rfl⟩
theorem arOK_opB (o m s u t : Int) : arOK o m s u t = (opB o && macOKB m && macOKB u && adrB s && adrB t) := rfl
set_option maxHeartbeats 2000000 in
theorem validArp_walk (o m s u t : Int) (w : World) : Calls Tryd.prog 64 #[.agg #[.int .i64 o, .int .i64 m, .int .i64 s, .int .i64 u, .int .i64 t]] w fun e w' => e = .returned (.bool (arOK o m s u t)) ∧ Below w.heap.size w w' := by
  have HB := hide (BoxA.start w o m s u t 44)
  obtain ⟨_, _, c0, c1, c2, c3, c4⟩ := HB.out

  cases h0 : opB o with
  | false =>
    have E : Hid (arOK o m s u t = false) := hide (by rw [arOK_opB, h0]; simp)
    go_enter Tryd.func64, Tryd.ntmps64
    go_wp2_with (first | (go_at_call 56; refine (isArpOp_walk _ _).mono ?_; rintro e w' ⟨rfl, rfl⟩) | (go_at_call 38; refine (isMac_walk _ _).mono ?_; rintro e w' ⟨rfl, rfl⟩) | (go_at_call 82; refine (isAddr_walk _ _).mono ?_; rintro e w' ⟨rfl, rfl⟩))
    go_ret
    exact ⟨ret_bool E.out.symm, HB.out.1⟩
  | true =>
    cases h1 : macOKB m with
    | false =>
      have E : Hid (arOK o m s u t = false) := hide (by rw [arOK_opB, h1]; simp)
      go_enter Tryd.func64, Tryd.ntmps64
      go_wp2_with (first | (go_at_call 56; refine (isArpOp_walk _ _).mono ?_; rintro e w' ⟨rfl, rfl⟩) | (go_at_call 38; refine (isMac_walk _ _).mono ?_; rintro e w' ⟨rfl, rfl⟩) | (go_at_call 82; refine (isAddr_walk _ _).mono ?_; rintro e w' ⟨rfl, rfl⟩))
      go_ret
      exact ⟨ret_bool E.out.symm, HB.out.1⟩
    | true =>
      cases h2 : adrB s with
      | false =>
        have E : Hid (arOK o m s u t = false) := hide (by rw [arOK_opB, h2]; simp)
        go_enter Tryd.func64, Tryd.ntmps64
        go_wp2_with (first | (go_at_call 56; refine (isArpOp_walk _ _).mono ?_; rintro e w' ⟨rfl, rfl⟩) | (go_at_call 38; refine (isMac_walk _ _).mono ?_; rintro e w' ⟨rfl, rfl⟩) | (go_at_call 82; refine (isAddr_walk _ _).mono ?_; rintro e w' ⟨rfl, rfl⟩))
        go_ret
        exact ⟨ret_bool E.out.symm, HB.out.1⟩
      | true =>
        cases h3 : macOKB u with
        | false =>
          have E : Hid (arOK o m s u t = false) := hide (by rw [arOK_opB, h3]; simp)
          go_enter Tryd.func64, Tryd.ntmps64
          go_wp2_with (first | (go_at_call 56; refine (isArpOp_walk _ _).mono ?_; rintro e w' ⟨rfl, rfl⟩) | (go_at_call 38; refine (isMac_walk _ _).mono ?_; rintro e w' ⟨rfl, rfl⟩) | (go_at_call 82; refine (isAddr_walk _ _).mono ?_; rintro e w' ⟨rfl, rfl⟩))
          go_ret
          exact ⟨ret_bool E.out.symm, HB.out.1⟩
        | true =>
          cases h4 : adrB t with
          | false =>
            have E : Hid (arOK o m s u t = false) := hide (by rw [arOK_opB, h4]; simp)
            go_enter Tryd.func64, Tryd.ntmps64
            go_wp2_with (first | (go_at_call 56; refine (isArpOp_walk _ _).mono ?_; rintro e w' ⟨rfl, rfl⟩) | (go_at_call 38; refine (isMac_walk _ _).mono ?_; rintro e w' ⟨rfl, rfl⟩) | (go_at_call 82; refine (isAddr_walk _ _).mono ?_; rintro e w' ⟨rfl, rfl⟩))
            go_ret
            exact ⟨ret_bool E.out.symm, HB.out.1⟩
          | true =>
            have E : Hid (arOK o m s u t = true) := hide (by rw [arOK_opB, h0, h1, h2, h3, h4]; rfl)
            go_enter Tryd.func64, Tryd.ntmps64
            go_wp2_with (first | (go_at_call 56; refine (isArpOp_walk _ _).mono ?_; rintro e w' ⟨rfl, rfl⟩) | (go_at_call 38; refine (isMac_walk _ _).mono ?_; rintro e w' ⟨rfl, rfl⟩) | (go_at_call 82; refine (isAddr_walk _ _).mono ?_; rintro e w' ⟨rfl, rfl⟩))
            go_ret
            exact ⟨ret_bool E.out.symm, HB.out.1⟩
/-- The Arp's box and the cursor's, laid. -/
abbrev encAW (w : World) (o m s u t : Int) : World := (w.alloc (.cells #[.int .i64 o, .int .i64 m, .int .i64 s, .int .i64 u, .int .i64 t] 44)).alloc (.cells #[.slice none 0 0, .int .i64 0, .nilIface] 66)
theorem encAW_facts (w : World) (o m s u t : Int) : BoxA w (encAW w o m s u t) o m s u t ∧ Cur (encAW w o m s u t) (w.heap.size + 1) (.slice none 0 0) 0 .nilIface := by
  have h1 := BoxA.start w o m s u t 44
  have hs := World.size_alloc w (.cells #[.int .i64 o, .int .i64 m, .int .i64 s, .int .i64 u, .int .i64 t] 44)
  refine ⟨h1.next ((Below.refl _ _).alloc (Nat.le_refl _) _), ?_⟩
  unfold Cur
  rw [← hs]
  exact heap_alloc_new _ _
set_option maxHeartbeats 4000000 in
theorem implEncA_ok (o m s u t : Int) (w : World) (h : arOK o m s u t = true) :
    Calls Tryd.prog 32 #[.agg #[.int .i64 o, .int .i64 m, .int .i64 s, .int .i64 u, .int .i64 t]] w fun e w' => ∃ v : Value, e = .returned (.tuple #[v, .int .i64 0]) ∧ OwnB w' w.heap.size v (arBody o m s u t) ∧ Below w.heap.size w w' := by
  have HF := hide (encAW_facts w o m s u t)
  have CV := hide (fun W => by have h' := validArp_walk o m s u t W; rw [h] at h'; exact h')
  clear h
  obtain ⟨⟨_, _, b0, b1, b2, b3, b4⟩, hc0⟩ := HF.out
  clear hc0
  go_enter Tryd.func32, Tryd.ntmps32
  go_wp2_with fail
  generalize hW : encAW w o m s u t = W at *
  unfold encAW at hW
  rw [hW]
  clear hW
  refine (CV.out _).mono ?_
  rintro e w1 ⟨rfl, hb1⟩
  have HB1 := hide (HF.out.1.next hb1)
  have HC1 := hide (HF.out.2.below hb1 HF.out.2.lt)
  clear b0 b1 b2 b3 b4 HF hb1 CV
  obtain ⟨_, _, b0, b1, b2, b3, b4⟩ := HB1.out
  go_wp2_with fail
  refine (demand_yes (w.heap.size + 1) 0 (.slice none 0 0) _ _ HC1.out).mono ?_
  rintro e w2 ⟨rfl, hw2⟩
  rw [hw2]
  clear hw2
  have CM := hide (makeRoom_ok (w.heap.size + 1) 0 (.slice none 0 0) 28 w1 HC1.out (by omega))
  go_wp2_with fail
  refine CM.out.mono ?_
  rintro e w2 ⟨rfl, hc2, hr2, hg2⟩
  have hsz0 := HC1.out.lt
  have hb2 := grown_under hg2 (Nat.le_refl _) (by omega)
  have HB2 := hide (HB1.out.keep hb2 (by omega))
  have HC2 := hide hc2
  have HR2 : Hid (RowB w2 w1.heap.size ([] ++ List.replicate 28 0)) := hide hr2
  clear b0 b1 b2 b3 b4 CM hc2 hr2 hg2 hb2 HB1 HC1
  generalize w1.heap.size = G at *
  obtain ⟨_, _, b0, b1, b2, b3, b4⟩ := HB2.out
  have C2 := hide (put_fill6 (w.heap.size + 1) G 28 (0) (28) 4429186564 _ w2 HC2.out HR2.out (by omega) rfl (by omega) (by omega) (by omega))
  go_wp2_with fail
  refine C2.out.mono ?_
  rintro e w3 ⟨rfl, hc3, hr3, hb3⟩
  have HB3 := hide (HB2.out.keep hb3 (by omega))
  have HC3 := hide hc3
  have HR3 := hide hr3
  clear b0 b1 b2 b3 b4 C2 hc3 hr3 hb3 HB2 HC2 HR2
  obtain ⟨_, _, b0, b1, b2, b3, b4⟩ := HB3.out
  have C3 := hide (put_fill2 (w.heap.size + 1) G 28 (0 + 6) (28 - 6) o _ w3 HC3.out HR3.out (by omega) (by simp [putL_len]) (by omega) (by omega) (by omega))
  go_wp2_with fail
  refine C3.out.mono ?_
  rintro e w4 ⟨rfl, hc4, hr4, hb4⟩
  have HB4 := hide (HB3.out.keep hb4 (by omega))
  have HC4 := hide hc4
  have HR4 := hide hr4
  clear b0 b1 b2 b3 b4 C3 hc4 hr4 hb4 HB3 HC3 HR3
  obtain ⟨_, _, b0, b1, b2, b3, b4⟩ := HB4.out
  have C4 := hide (put_fill6 (w.heap.size + 1) G 28 (0 + 6 + 2) (28 - 6 - 2) m _ w4 HC4.out HR4.out (by omega) (by simp [putL_len]) (by omega) (by omega) (by omega))
  go_wp2_with fail
  refine C4.out.mono ?_
  rintro e w5 ⟨rfl, hc5, hr5, hb5⟩
  have HB5 := hide (HB4.out.keep hb5 (by omega))
  have HC5 := hide hc5
  have HR5 := hide hr5
  clear b0 b1 b2 b3 b4 C4 hc5 hr5 hb5 HB4 HC4 HR4
  obtain ⟨_, _, b0, b1, b2, b3, b4⟩ := HB5.out
  have C5 := hide (put_fill4 (w.heap.size + 1) G 28 (0 + 6 + 2 + 6) (28 - 6 - 2 - 6) s _ w5 HC5.out HR5.out (by omega) (by simp [putL_len]) (by omega) (by omega) (by omega))
  go_wp2_with fail
  refine C5.out.mono ?_
  rintro e w6 ⟨rfl, hc6, hr6, hb6⟩
  have HB6 := hide (HB5.out.keep hb6 (by omega))
  have HC6 := hide hc6
  have HR6 := hide hr6
  clear b0 b1 b2 b3 b4 C5 hc6 hr6 hb6 HB5 HC5 HR5
  obtain ⟨_, _, b0, b1, b2, b3, b4⟩ := HB6.out
  have C6 := hide (put_fill6 (w.heap.size + 1) G 28 (0 + 6 + 2 + 6 + 4) (28 - 6 - 2 - 6 - 4) u _ w6 HC6.out HR6.out (by omega) (by simp [putL_len]) (by omega) (by omega) (by omega))
  go_wp2_with fail
  refine C6.out.mono ?_
  rintro e w7 ⟨rfl, hc7, hr7, hb7⟩
  have HB7 := hide (HB6.out.keep hb7 (by omega))
  have HC7 := hide hc7
  have HR7 := hide hr7
  clear b0 b1 b2 b3 b4 C6 hc7 hr7 hb7 HB6 HC6 HR6
  obtain ⟨_, _, b0, b1, b2, b3, b4⟩ := HB7.out
  have C7 := hide (put_fill4 (w.heap.size + 1) G 28 (0 + 6 + 2 + 6 + 4 + 6) (28 - 6 - 2 - 6 - 4 - 6) t _ w7 HC7.out HR7.out (by omega) (by simp [putL_len]) (by omega) (by omega) (by omega))
  go_wp2_with fail
  refine C7.out.mono ?_
  rintro e w8 ⟨rfl, hc8, hr8, hb8⟩
  have HB8 := hide (HB7.out.keep hb8 (by omega))
  have HC8 := hide hc8
  have HR8 := hide hr8
  clear b0 b1 b2 b3 b4 C7 hc8 hr8 hb8 HB7 HC7 HR7
  obtain ⟨_, _, b0, b1, b2, b3, b4⟩ := HB8.out
  have HE : Hid ([] ++ putL 4429186564 6 ++ putL o 2 ++ putL m 6 ++ putL s 4 ++ putL u 6 ++ putL t 4 ++ List.replicate (28 - 6 - 2 - 6 - 4 - 6 - 4) 0 = arBody o m s u t) := hide (by
    have e : putL 4429186564 6 = arHead := by decide
    rw [e]; unfold arBody; simp)
  rw [HE.out] at HR8
  clear HE
  obtain ⟨c0, c1, c2, cf⟩ := HC8.out.cells
  clear b0 b1 b2 b3 b4
  have HB10 := HB8
  have HC10 := HC8
  have HR10 := HR8
  clear c0 c1 c2 cf
  obtain ⟨c0, c1, c2, cf⟩ := HC10.out.cells
  have HO := HR10.out.own (B := w.heap.size) (by omega) (fun z hz => arBody_bd _ _ _ _ _ z hz) (by rw [arBody_len]; omega)
  rw [arBody_len] at HO
  have HO' := hide HO
  clear HO
  have CA := hide (ansB_nil (some ⟨G, 0, none⟩) 28 28 w8.drew)
  have HK : Hid (w8.drew.cell? ⟨w.heap.size + 1, 0, none⟩ = some (.slice (some ⟨G, 0, none⟩) 28 28) ∧ w8.drew.cell? ⟨w.heap.size + 1, 2, none⟩ = some .nilIface) := hide ⟨c0, c2⟩
  have hlt8 : w.heap.size + 1 < w8.heap.size := lt_cell c0
  have HOD := hide HO'.out.drew
  have HBD := hide HB10.out.1.drew
  clear HO'
  go_wp2_with fail
  go_region_held3 (fun w' => w'.cell? ⟨w.heap.size + 1, 0, none⟩ = some (.slice (some ⟨G, 0, none⟩) 28 28) ∧ w'.cell? ⟨w.heap.size + 1, 2, none⟩ = some .nilIface) (first | with_reducible assumption | with_reducible exact HK.out)
    ((go_at_call 45; refine CA.out.mono ?_; rintro e w88 ⟨rfl, hb88⟩; have hk9 : w88.cell? ⟨w.heap.size + 1, 0, none⟩ = some (.slice (some ⟨G, 0, none⟩) 28 28) ∧ w88.cell? ⟨w.heap.size + 1, 2, none⟩ = some .nilIface := ⟨(hb88.cell (p := ⟨w.heap.size + 1, 0, none⟩) hlt8).trans HK.out.1, (hb88.cell (p := ⟨w.heap.size + 1, 2, none⟩) hlt8).trans HK.out.2⟩))
  all_goals
    go_wp2_with fail
    go_ret2
    exact ⟨.slice (some ⟨G, 0, none⟩) 28 28, rfl, HOD.out.next hb88, HBD.out.trans (hb88.mono HBD.out.size)⟩
set_option maxHeartbeats 4000000 in
theorem implEncA_bad (o m s u t : Int) (w : World) (h : arOK o m s u t = false) (he : ErrT w) :
    Calls Tryd.prog 32 #[.agg #[.int .i64 o, .int .i64 m, .int .i64 s, .int .i64 u, .int .i64 t]] w fun e w' => e = .returned (.tuple #[.slice none 0 0, .int .i64 1]) ∧ Below w.heap.size w w' := by
  have HF := hide (encAW_facts w o m s u t)
  have CV := hide (fun W => by have h' := validArp_walk o m s u t W; rw [h] at h'; exact h')
  have HE := hide he
  clear h he
  obtain ⟨⟨_, _, b0, b1, b2, b3, b4⟩, hc0⟩ := HF.out
  clear hc0
  go_enter Tryd.func32, Tryd.ntmps32
  go_wp2_with fail
  generalize hW : encAW w o m s u t = W at *
  unfold encAW at hW
  rw [hW]
  clear hW
  refine (CV.out _).mono ?_
  rintro e w1 ⟨rfl, hb1⟩
  have HB1 := hide (HF.out.1.next hb1)
  have HC1 := hide (HF.out.2.below hb1 HF.out.2.lt)
  clear b0 b1 b2 b3 b4 HF hb1 CV
  have hlt := HC1.out.lt
  go_wp2_with fail
  refine (demand_no (w.heap.size + 1) 0 (.slice none 0 0) _ _ HC1.out).mono ?_
  rintro e w2 ⟨rfl, hc2, hg2⟩
  have HC2 := hide hc2
  have HB2 := hide (HB1.out.keep (grown_under hg2 (Nat.le_refl _) (by omega)) (by omega))
  clear hc2 hg2 HB1 HC1
  obtain ⟨_, _, b0, b1, b2, b3, b4⟩ := HB2.out
  go_wp2_with fail
  refine (makeRoom_err (w.heap.size + 1) 0 _ 1 _ _ HC2.out).mono ?_
  rintro e w3 ⟨rfl, hw3⟩
  rw [hw3]
  clear hw3
  go_wp2_with fail
  refine (put_err (w.heap.size + 1) 0 0 0 none 1 _ 6 _ (show Cur (w2) _ _ _ _ from HC2.out) (by omega) (by omega) (by omega) (by omega)).mono ?_
  rintro e w4 ⟨rfl, m0, rfl⟩
  go_wp2_with fail
  refine (put_err (w.heap.size + 1) 0 0 0 none 1 _ 2 _ (show Cur (w2.drewN m0) _ _ _ _ from HC2.out) (by omega) (by omega) (by omega) (by omega)).mono ?_
  rintro e w5 ⟨rfl, m1, rfl⟩
  go_wp2_with fail
  refine (put_err (w.heap.size + 1) 0 0 0 none 1 _ 6 _ (show Cur (w2.drewN (m0 + m1)) _ _ _ _ from HC2.out) (by omega) (by omega) (by omega) (by omega)).mono ?_
  rintro e w6 ⟨rfl, m2, rfl⟩
  go_wp2_with fail
  refine (put_err (w.heap.size + 1) 0 0 0 none 1 _ 4 _ (show Cur (w2.drewN (m0 + m1 + m2)) _ _ _ _ from HC2.out) (by omega) (by omega) (by omega) (by omega)).mono ?_
  rintro e w7 ⟨rfl, m3, rfl⟩
  go_wp2_with fail
  refine (put_err (w.heap.size + 1) 0 0 0 none 1 _ 6 _ (show Cur (w2.drewN (m0 + m1 + m2 + m3)) _ _ _ _ from HC2.out) (by omega) (by omega) (by omega) (by omega)).mono ?_
  rintro e w8 ⟨rfl, m4, rfl⟩
  go_wp2_with fail
  refine (put_err (w.heap.size + 1) 0 0 0 none 1 _ 4 _ (show Cur (w2.drewN (m0 + m1 + m2 + m3 + m4)) _ _ _ _ from HC2.out) (by omega) (by omega) (by omega) (by omega)).mono ?_
  rintro e w9 ⟨rfl, m5, rfl⟩
  have hB : Below w.heap.size w ((w2.drewN (m0 + m1 + m2 + m3 + m4)).drewN m5) := below_drewN (below_drewN HB2.out.1 _) _
  have HB := hide hB
  obtain ⟨c0, c1, c2, cf⟩ := (show Cur ((w2.drewN (m0 + m1 + m2 + m3 + m4)).drewN m5) _ _ _ _ from HC2.out).cells
  clear HC2 HB2 b0 b1 b2 b3 b4 hB
  generalize (w2.drewN (m0 + m1 + m2 + m3 + m4)).drewN m5 = V at *
  have CA := hide (ansB_err none 0 0 1 (by decide) V.drew (HE.out.below HB.out.drew (Nat.le_refl _)))
  have HK : Hid (V.drew.cell? ⟨w.heap.size + 1, 0, none⟩ = some (.slice none 0 0) ∧ V.drew.cell? ⟨w.heap.size + 1, 2, none⟩ = some (wErr 1)) := hide ⟨c0, c2⟩
  have hlt8 : w.heap.size + 1 < V.heap.size := lt_cell c0
  go_wp2_with fail
  go_region_held3 (fun w' => w'.cell? ⟨w.heap.size + 1, 0, none⟩ = some (.slice none 0 0) ∧ w'.cell? ⟨w.heap.size + 1, 2, none⟩ = some (wErr 1)) (first | with_reducible assumption | with_reducible exact HK.out)
    ((go_at_call 45; refine CA.out.mono ?_; rintro e w88 ⟨rfl, hb88⟩; have hk9 : w88.cell? ⟨w.heap.size + 1, 0, none⟩ = some (.slice none 0 0) ∧ w88.cell? ⟨w.heap.size + 1, 2, none⟩ = some (wErr 1) := ⟨(hb88.cell (p := ⟨w.heap.size + 1, 0, none⟩) hlt8).trans HK.out.1, (hb88.cell (p := ⟨w.heap.size + 1, 2, none⟩) hlt8).trans HK.out.2⟩))
  all_goals
    go_wp2_with fail
    go_ret2
    exact ⟨rfl, HB.out.drew.trans (hb88.mono HB.out.size)⟩
/-- EncodeArp of the program. -/
theorem implEncA_walk (o m s u t : Int) (w : World) (he : ErrT w) :
    Calls Tryd.prog 32 #[.agg #[.int .i64 o, .int .i64 m, .int .i64 s, .int .i64 u, .int .i64 t]] w fun e w' => ∃ v : Value, e = .returned (.tuple #[v, .int .i64 (arC o m s u t)]) ∧ OwnB w' w.heap.size v (arL o m s u t) ∧ Below w.heap.size w w' := by
  cases h : arOK o m s u t with
  | false =>
    refine (implEncA_bad o m s u t w h he).mono ?_
    rintro e w' ⟨rfl, hb⟩
    refine ⟨_, by unfold arC; rw [h]; rfl, ?_, hb⟩
    unfold arL
    rw [h]
    exact ⟨World.ownsRow_nil _ _ _ _, by simp⟩
  | true =>
    refine (implEncA_ok o m s u t w h).mono ?_
    rintro e w' ⟨v, rfl, hO, hb⟩
    refine ⟨v, by unfold arC; rw [h]; rfl, ?_, hb⟩
    unfold arL
    rw [h]
    exact hO
end Go.Proofs.YthoinddlnmailaaDoor
