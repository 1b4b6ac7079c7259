/-
Contracts of functions of this seat.
-/
import Derived.Test.YthoinddlnmailaaDoorRows
import Derived.WalkKit
import Derived.ProofKit
import Derived.OpenShut
import Derived.Test.YthoinddlnmailaaDoorCur
import Derived.Test.YthoinddlnmailaaDoorAns
import Derived.Test.YthoinddlnmailaaDoorRev
namespace Go.Proofs.YthoinddlnmailaaDoor
open Go.ChangeShapes Go.WideShapes Go.ChangeAt Go.RowKit
set_option linter.unusedVariables false
set_option maxRecDepth 100000
theorem isMac_walk (a : Int) (w : World) :
    Calls Tryd.prog 38 #[.int .i64 a] w fun e w' => e = .returned (.bool (macOKB a)) ∧ w' = w := by
  by_cases h1 : 0 ≤ a
  · by_cases h2 : a ≤ 281474976710655
    · have e := hide (macOKB_iff.2 ⟨h1, h2⟩)
      go_enter Tryd.func38, Tryd.ntmps38
      go_wp2
      go_ret
      exact ⟨ret_bool e.out.symm, rfl⟩
    · have e : Hid (macOKB a = false) := hide (by unfold macOKB; simp; omega)
      go_enter Tryd.func38, Tryd.ntmps38
      go_wp2
      go_ret
      exact ⟨ret_bool e.out.symm, rfl⟩
  · have e : Hid (macOKB a = false) := hide (by unfold macOKB; simp; omega)
    go_enter Tryd.func38, Tryd.ntmps38
    go_wp2
    go_ret
    exact ⟨ret_bool e.out.symm, rfl⟩

theorem isType_any (x : Int) (w : World) : Calls Tryd.prog 39 #[.int .i64 x] w fun e w' => e = .returned (.bool (decide (0 ≤ x) && decide (x ≤ 65535))) ∧ w' = w := by
  by_cases h1 : 0 ≤ x
  · by_cases h2 : x ≤ 65535
    · have e : Hid ((decide (0 ≤ x) && decide (x ≤ 65535)) = true) := hide (by simp [h1, h2])
      go_enter Tryd.func39, Tryd.ntmps39
      go_wp2
      go_ret
      exact ⟨ret_bool e.out.symm, rfl⟩
    · have e : Hid ((decide (0 ≤ x) && decide (x ≤ 65535)) = false) := hide (by simp [h2])
      go_enter Tryd.func39, Tryd.ntmps39
      go_wp2
      go_ret
      exact ⟨ret_bool (decide_eq_false (by omega)).symm, rfl⟩
  · have e : Hid ((decide (0 ≤ x) && decide (x ≤ 65535)) = false) := hide (by simp [h1])
    go_enter Tryd.func39, Tryd.ntmps39
    go_wp2
    go_ret
    exact ⟨ret_bool e.out.symm, rfl⟩
theorem isType_yes (x : Int) (w : World) (h0 : 0 ≤ x) (h1 : x ≤ 65535) : Calls Tryd.prog 39 #[.int .i64 x] w fun e w' => e = .returned (.bool true) ∧ w' = w := by
  have h := isType_any x w
  rw [decide_eq_true h0, decide_eq_true h1] at h
  exact h
theorem isType_no (x : Int) (w : World) (h : ¬ (0 ≤ x ∧ x ≤ 65535)) : Calls Tryd.prog 39 #[.int .i64 x] w fun e w' => e = .returned (.bool false) ∧ w' = w := by
  have k := isType_any x w
  have e : (decide (0 ≤ x) && decide (x ≤ 65535)) = false := by
    rw [Bool.eq_false_iff]
    intro hh
    simp only [Bool.and_eq_true, decide_eq_true_eq] at hh
    exact h hh
  rw [e] at k
  exact k
/-- The frame's box and the cursor's, laid. -/
abbrev encW (w : World) (d s t : Int) (v : Value) : World := (w.alloc (.cells #[.int .i64 d, .int .i64 s, .int .i64 t, v] 32)).alloc (.cells #[.slice none 0 0, .int .i64 0, .nilIface] 66)
theorem encW_facts (w : World) (d s t : Int) (v : Value) : BoxF w (encW w d s t v) d s t v ∧ Cur (encW w d s t v) (w.heap.size + 1) (.slice none 0 0) 0 .nilIface := by
  have h1 := BoxF.start w d s t v 32
  have hs := World.size_alloc w (.cells #[.int .i64 d, .int .i64 s, .int .i64 t, v] 32)
  refine ⟨h1.next ((Below.refl _ _).alloc (Nat.le_refl _) _), ?_⟩
  unfold Cur
  rw [← hs]
  exact heap_alloc_new _ _
set_option maxHeartbeats 1000000 in
theorem implEnc_ok (d s t : Int) (a : Option Addr) (n cap : Nat) (zs : List Int) (w : World) (h : frOK d s t = true) (hn : zs.length = n) (ha : Arr w a zs) (hsz : n ≤ 1500) :
    Calls Tryd.prog 12 #[.agg #[.int .i64 d, .int .i64 s, .int .i64 t, .slice a n cap]] w fun e w' => ∃ v : Value, e = .returned (.tuple #[v, .int .i64 0]) ∧ OwnB w' w.heap.size v (bodyL d s t zs ++ tailL (sumOf (bodyL d s t zs))) ∧ Below w.heap.size w w' := by
  obtain ⟨h1, h2, hd, hs, ht0, ht1⟩ := frOK_parts h
  have HF := hide (encW_facts w d s t (.slice a n cap))
  have HA := hide ha
  have HN := hide hn
  clear h ha hn
  go_enter Tryd.func12, Tryd.ntmps12
  go_wp2_with (first | (go_at_call 38; refine (isMac_walk _ _).mono ?_; rintro e w' ⟨rfl, rfl⟩) | (go_at_call 39; refine (isType_yes _ _ ht0 ht1).mono ?_; rintro e w' ⟨rfl, rfl⟩))
  have hb0 := HF.out.1
  have hc0 := HF.out.2
  have CD := hide (fun code => demand_yes (w.heap.size + 1) 0 (.slice none 0 0) code _ hc0)
  have HB0 := hide hb0
  have HC0 := hide hc0
  clear HF hb0 hc0
  generalize hW : encW w d s t (.slice a n cap) = W at *
  unfold encW at hW
  rw [hW]
  clear hW
  refine (CD.out _).mono ?_
  rintro e w1 ⟨rfl, hw1⟩
  rw [hw1]
  clear hw1
  obtain ⟨_, _, b0, b1, b2, b3⟩ := HB0.out
  have hle : (n : Int) ≤ 1500 := by omega
  go_wp2_with fail
  refine (CD.out _).mono ?_
  rintro e w1 ⟨rfl, hw1⟩
  rw [hw1]
  clear hw1 CD
  have cm := makeRoom_ok (w.heap.size + 1) 0 (.slice none 0 0) (14 + n + 4) W HC0.out (by omega)
  rw [show ((14 + n + 4 : Nat) : Int) = 14 + (n : Int) + 4 by omega] at cm
  have CM := hide cm
  clear cm
  go_wp2_with fail
  refine CM.out.mono ?_
  rintro e w2 ⟨rfl, hc2, hr2, hg2⟩
  have hsz0 := HC0.out.lt
  have hb2 := grown_under hg2 (Nat.le_refl _) (by omega)
  have HB2 := hide (HB0.out.keep hb2 (by omega))
  have HC2 := hide hc2
  have HR2 : Hid (RowB w2 W.heap.size ([] ++ List.replicate (18 + n) 0)) := hide (by rw [List.nil_append, show 18 + n = 14 + n + 4 by omega]; exact hr2)
  clear b0 b1 b2 b3 CM hc2 hr2 hg2 hb2 HB0 HC0
  generalize W.heap.size = G at *
  obtain ⟨N, hNN⟩ : ∃ N, N = 14 + n + 4 := ⟨_, rfl⟩
  rw [← hNN] at HC2
  have hN1 : N ≤ 18 + n := by omega
  have hN2 : 18 + n ≤ N := by omega
  clear hNN
  obtain ⟨_, _, b0, b1, b2, b3⟩ := HB2.out
  have C3 := hide (put_fill6 (w.heap.size + 1) G N 0 (18 + n) d [] w2 HC2.out HR2.out (by omega) rfl (by omega) (by omega) (by omega))
  go_wp2_with fail
  refine C3.out.mono ?_
  rintro e w3 ⟨rfl, hc3, hr3, hb3⟩
  have HB3 := hide (HB2.out.keep hb3 (by omega))
  have HC3 := hide hc3
  have HR3 := hide hr3
  clear b0 b1 b2 b3 C3 hc3 hr3 hb3 HB2 HC2 HR2
  obtain ⟨_, _, b0, b1, b2, b3⟩ := HB3.out
  have C4 := hide (put_fill6 (w.heap.size + 1) G N (0 + 6) (18 + n - 6) s _ w3 HC3.out HR3.out (by omega) (by simp [putL_len]) (by omega) (by omega) (by omega))
  go_wp2_with fail
  refine C4.out.mono ?_
  rintro e w4 ⟨rfl, hc4, hr4, hb4⟩
  have HB4 := hide (HB3.out.keep hb4 (by omega))
  have HC4 := hide hc4
  have HR4 := hide hr4
  clear b0 b1 b2 b3 C4 hc4 hr4 hb4 HB3 HC3 HR3
  obtain ⟨_, _, b0, b1, b2, b3⟩ := HB4.out
  have C5 := hide (put_fill2 (w.heap.size + 1) G N (0 + 6 + 6) (18 + n - 6 - 6) t _ w4 HC4.out HR4.out (by omega) (by simp [putL_len]) (by omega) (by omega) (by omega))
  go_wp2_with fail
  refine C5.out.mono ?_
  rintro e w5 ⟨rfl, hc5, hr5, hb5⟩
  have HB5 := hide (HB4.out.keep hb5 (by omega))
  have HC5 := hide hc5
  have HR5 := hide hr5
  clear b0 b1 b2 b3 C5 hc5 hr5 hb5 HB4 HC4 HR4
  obtain ⟨_, _, b0, b1, b2, b3⟩ := HB5.out
  have C6 := hide (putBytes_fill (w.heap.size + 1) G N (0 + 6 + 6 + 2) (18 + n - 6 - 6 - 2) n cap a _ zs w5 HC5.out HR5.out (by omega) (by simp [putL_len]) (by omega) (by omega) (by omega) (by omega) HN.out (HA.out.below HB5.out.1 (Nat.le_refl _)) (fun j hj => by
    obtain ⟨b, off, e, hlt, _⟩ := HA.out.2 j hj
    exact ⟨b, off, e, by omega⟩))
  go_wp2_with fail
  refine C6.out.mono ?_
  rintro e w6 ⟨rfl, hc6, hr6, hb6⟩
  have HB6 := hide (HB5.out.keep hb6 (by omega))
  have HC6 := hide hc6
  have HR6 := hide hr6
  clear b0 b1 b2 b3 C6 hc6 hr6 hb6 HB5 HC5 HR5
  have HE : Hid ([] ++ putL d 6 ++ putL s 6 ++ putL t 2 ++ zs = bodyL d s t zs) := hide (by unfold bodyL headL; simp)
  rw [HE.out] at HR6
  have hbl : (bodyL d s t zs).length = 14 + n := by unfold bodyL headL; simp [putL_len, HN.out]; omega
  have hbb : ∀ z ∈ bodyL d s t zs, 0 ≤ z ∧ z ≤ 255 := by
    intro z hz
    unfold bodyL headL at hz
    simp only [List.mem_append] at hz
    rcases hz with ((hz | hz) | hz) | hz
    · exact putL_bd _ _ z hz
    · exact putL_bd _ _ z hz
    · exact putL_bd _ _ z hz
    · exact HA.out.1 z hz
  have HBL := hide hbl
  have HBB := hide hbb
  have HS := hide (sumOf_bd _ hbb)
  clear HE hbl hbb HA HN
  generalize hbs : bodyL d s t zs = bs at *
  obtain ⟨P, hP⟩ : ∃ P, P = 0 + 6 + 6 + 2 + n := ⟨_, rfl⟩
  rw [← hP] at HC6
  have hP1 : P ≤ 14 + n := by omega
  have hP2 : 14 + n ≤ P := by omega
  clear hP
  have C7 := hide (passed_walk (w.heap.size + 1) P N N G 0 .nilIface w6 HC6.out (by omega) (by omega))
  go_wp2_with fail
  refine C7.out.mono ?_
  rintro e w7 ⟨rfl, m7, rfl⟩
  have ha7 : Arr (w6.drewN m7) (some ⟨G, 0, none⟩) bs := by
    have hbd : ∀ z ∈ bs ++ List.replicate (18 + n - 6 - 6 - 2 - n) 0, 0 ≤ z ∧ z ≤ (255 : Int) := by
      intro z hz
      rcases List.mem_append.1 hz with hz | hz
      · exact HBB.out z hz
      · rw [(List.mem_replicate.1 hz).2]; omega
    have hh := (RowB.arr (w := w6.drewN m7) HR6.out hbd).take bs.length
    rw [List.take_left] at hh
    exact hh
  have C8 := hide (frameSum_walk (some ⟨G, 0, none⟩) P N bs (w6.drewN m7) (by have := HBL.out; omega) ha7 (by omega))
  clear ha7 C7
  go_wp2_with fail
  refine C8.out.mono ?_
  rintro e w8 ⟨rfl, hw8⟩
  rw [hw8]
  clear hw8 C8
  have C9 := hide (put_fill4 (w.heap.size + 1) G N P (18 + n - 6 - 6 - 2 - n) (rev32 (sumOf bs)) bs (w6.drewN m7) HC6.out HR6.out (by omega) (by have := HBL.out; omega) (by omega) (by omega) (by omega))
  go_wp2_with fail
  refine C9.out.mono ?_
  rintro e w9 ⟨rfl, hc9, hr9, hb9⟩
  have hb9' : Below (w.heap.size + 1) w6 w9 := ⟨hb9.os, hb9.tape, hb9.output, hb9.size, hb9.block⟩
  have HB9 := hide (HB6.out.keep hb9' (by omega))
  have HC9 := hide hc9
  have HR9 : Hid (RowB w9 G (bs ++ tailL (sumOf bs))) := hide (by
    have h := hr9
    rw [show 18 + n - 6 - 6 - 2 - n - 4 = 0 by omega, put_rev _ HS.out.1 HS.out.2] at h
    simpa using h)
  clear C9 hc9 hr9 hb9 hb9' HB6 HC6 HR6
  obtain ⟨c0, c1, c2, cf⟩ := HC9.out.cells
  have hlt9 := HC9.out.lt
  have HB10 := HB9
  have HC10 := HC9
  have HR10 := HR9
  clear c0 c1 c2 cf
  obtain ⟨c0, c1, c2, cf⟩ := HC10.out.cells
  have hlen : (bs ++ tailL (sumOf bs)).length = N := by rw [List.length_append, HBL.out]; simp [tailL]; omega
  have HO := HR10.out.own (B := w.heap.size) (by omega) (fun z hz => by
    rcases List.mem_append.1 hz with hz | hz
    · exact HBB.out z hz
    · exact tailL_bd _ z hz) (by omega)
  rw [hlen] at HO
  have HO' := hide HO
  clear HO hlen
  have CA := hide (ansB_nil (some ⟨G, 0, none⟩) N N w9.drew)
  have HK : Hid (w9.drew.cell? ⟨w.heap.size + 1, 0, none⟩ = some (.slice (some ⟨G, 0, none⟩) N N) ∧ w9.drew.cell? ⟨w.heap.size + 1, 2, none⟩ = some .nilIface) := hide ⟨c0, c2⟩
  have hlt8 : w.heap.size + 1 < w9.heap.size := lt_cell c0
  have HOD := hide HO'.out.drew
  have HBD := hide HB10.out.1.drew
  clear HO'
  go_wp2_with fail
  go_region_held3 (fun w' => w'.cell? ⟨w.heap.size + 1, 0, none⟩ = some (.slice (some ⟨G, 0, none⟩) N N) ∧ w'.cell? ⟨w.heap.size + 1, 2, none⟩ = some .nilIface) (first | with_reducible assumption | with_reducible exact HK.out)
    ((go_at_call 45; refine CA.out.mono ?_; rintro e w88 ⟨rfl, hb88⟩; have hk9 : w88.cell? ⟨w.heap.size + 1, 0, none⟩ = some (.slice (some ⟨G, 0, none⟩) N N) ∧ w88.cell? ⟨w.heap.size + 1, 2, none⟩ = some .nilIface := ⟨(hb88.cell (p := ⟨w.heap.size + 1, 0, none⟩) hlt8).trans HK.out.1, (hb88.cell (p := ⟨w.heap.size + 1, 2, none⟩) hlt8).trans HK.out.2⟩))
  all_goals
    go_wp2_with fail
    go_ret2
    exact ⟨.slice (some ⟨G, 0, none⟩) N N, rfl, by rw [hbs]; exact HOD.out.next hb88, HBD.out.trans (hb88.mono HBD.out.size)⟩
set_option maxHeartbeats 4000000 in
theorem implEnc_badD (d s t : Int) (a : Option Addr) (n cap : Nat) (w : World) (h1 : macOKB d = false) (hm : n ≤ 1048576) (he : ErrT w) :
    Calls Tryd.prog 12 #[.agg #[.int .i64 d, .int .i64 s, .int .i64 t, .slice a n cap]] w fun e w' => e = .returned (.tuple #[.slice none 0 0, .int .i64 1]) ∧ Below w.heap.size w w' := by
  have HF := hide (encW_facts w d s t (.slice a n cap))
  have HE := hide he
  clear he
  go_enter Tryd.func12, Tryd.ntmps12
  go_wp2_with (first | (go_at_call 38; refine (isMac_walk _ _).mono ?_; rintro e w' ⟨rfl, rfl⟩))
  have CD := hide (fun code => demand_yes (w.heap.size + 1) 0 (.slice none 0 0) code _ HF.out.2)
  have CN := hide (fun code => demand_no (w.heap.size + 1) 0 (.slice none 0 0) code _ HF.out.2)
  have HB0 := hide HF.out.1
  have hlt := HF.out.2.lt
  clear HF
  generalize hW : encW w d s t (.slice a n cap) = W at *
  unfold encW at hW
  rw [hW]
  clear hW
  refine (CN.out _).mono ?_
  rintro e w1 ⟨rfl, hc1, hg1⟩
  have HC1 := hide hc1
  have HB1 := hide (HB0.out.keep (grown_under hg1 (Nat.le_refl _) (by omega)) (by omega))
  clear hc1 hg1 CD CN HB0
  obtain ⟨_, _, b0, b1, b2, b3⟩ := HB1.out
  go_wp2_with fail
  refine (demand_err (w.heap.size + 1) 0 _ 1 _ _ _ HC1.out).mono ?_
  rintro e w2 ⟨rfl, hw2⟩
  rw [hw2]
  clear hw2
  go_wp2_with fail
  refine (makeRoom_err (w.heap.size + 1) 0 _ 1 _ _ HC1.out).mono ?_
  rintro e w3 ⟨rfl, hw3⟩
  rw [hw3]
  clear hw3
  go_wp2_with fail
  refine (put_err (w.heap.size + 1) 0 0 0 none 1 _ 6 _ (show Cur (w1) _ _ _ _ from HC1.out) (by omega) (by omega) (by omega) (by omega)).mono ?_
  rintro e w4 ⟨rfl, m0, rfl⟩
  go_wp2_with fail
  refine (put_err (w.heap.size + 1) 0 0 0 none 1 _ 6 _ (show Cur (w1.drewN m0) _ _ _ _ from HC1.out) (by omega) (by omega) (by omega) (by omega)).mono ?_
  rintro e w5 ⟨rfl, m1, rfl⟩
  go_wp2_with fail
  refine (put_err (w.heap.size + 1) 0 0 0 none 1 _ 2 _ (show Cur (w1.drewN (m0 + m1)) _ _ _ _ from HC1.out) (by omega) (by omega) (by omega) (by omega)).mono ?_
  rintro e w6 ⟨rfl, m2, rfl⟩
  go_wp2_with fail
  refine (putBytes_err (w.heap.size + 1) 0 0 0 n cap none a 1 _ (show Cur (w1.drewN (m0 + m1 + m2)) _ _ _ _ from HC1.out) (by omega) (by omega) (by omega)).mono ?_
  rintro e w7 ⟨rfl, m3, rfl⟩
  go_wp2_with fail
  refine (passed_none (w.heap.size + 1) _ _ (show Cur (w1.drewN (m0 + m1 + m2 + m3)) _ _ _ _ from HC1.out)).mono ?_
  rintro e w8 ⟨rfl, m4, rfl⟩
  go_wp2_with fail
  refine (frameSum_walk none 0 0 [] _ rfl ⟨by simp, fun j hj => by simp at hj⟩ (by omega)).mono ?_
  rintro e w9 ⟨rfl, hw9⟩
  rw [hw9]
  clear hw9
  go_wp2_with fail
  refine (put_err (w.heap.size + 1) 0 0 0 none 1 _ 4 _ (show Cur (w1.drewN (m0 + m1 + m2 + m3 + m4)) _ _ _ _ from HC1.out) (by omega) (by omega) (by omega) (by omega)).mono ?_
  rintro e w10 ⟨rfl, m5, rfl⟩
  have hB : Below w.heap.size w ((w1.drewN (m0 + m1 + m2 + m3 + m4)).drewN m5) := below_drewN (below_drewN HB1.out.1 _) _
  have HB := hide hB
  obtain ⟨c0, c1, c2, cf⟩ := (show Cur ((w1.drewN (m0 + m1 + m2 + m3 + m4)).drewN m5) _ _ _ _ from HC1.out).cells
  clear HC1 HB1 b0 b1 b2 b3 hB
  generalize (w1.drewN (m0 + m1 + m2 + m3 + m4)).drewN m5 = V at *
  have CA := hide (ansB_err none 0 0 1 (by decide) V.drew (HE.out.below HB.out.drew (Nat.le_refl _)))
  have HK : Hid (V.drew.cell? ⟨w.heap.size + 1, 0, none⟩ = some (.slice none 0 0) ∧ V.drew.cell? ⟨w.heap.size + 1, 2, none⟩ = some (wErr 1)) := hide ⟨c0, c2⟩
  have hlt8 : w.heap.size + 1 < V.heap.size := lt_cell c0
  go_wp2_with fail
  go_region_held3 (fun w' => w'.cell? ⟨w.heap.size + 1, 0, none⟩ = some (.slice none 0 0) ∧ w'.cell? ⟨w.heap.size + 1, 2, none⟩ = some (wErr 1)) (first | with_reducible assumption | with_reducible exact HK.out)
    ((go_at_call 45; refine CA.out.mono ?_; rintro e w88 ⟨rfl, hb88⟩; have hk9 : w88.cell? ⟨w.heap.size + 1, 0, none⟩ = some (.slice none 0 0) ∧ w88.cell? ⟨w.heap.size + 1, 2, none⟩ = some (wErr 1) := ⟨(hb88.cell (p := ⟨w.heap.size + 1, 0, none⟩) hlt8).trans HK.out.1, (hb88.cell (p := ⟨w.heap.size + 1, 2, none⟩) hlt8).trans HK.out.2⟩))
  all_goals
    go_wp2_with fail
    go_ret2
    exact ⟨rfl, HB.out.drew.trans (hb88.mono HB.out.size)⟩
set_option maxHeartbeats 4000000 in
theorem implEnc_badS (d s t : Int) (a : Option Addr) (n cap : Nat) (w : World) (h1 : macOKB d = true) (h2 : macOKB s = false) (hm : n ≤ 1048576) (he : ErrT w) :
    Calls Tryd.prog 12 #[.agg #[.int .i64 d, .int .i64 s, .int .i64 t, .slice a n cap]] w fun e w' => e = .returned (.tuple #[.slice none 0 0, .int .i64 1]) ∧ Below w.heap.size w w' := by
  have HF := hide (encW_facts w d s t (.slice a n cap))
  have HE := hide he
  clear he
  go_enter Tryd.func12, Tryd.ntmps12
  go_wp2_with (first | (go_at_call 38; refine (isMac_walk _ _).mono ?_; rintro e w' ⟨rfl, rfl⟩))
  have CD := hide (fun code => demand_yes (w.heap.size + 1) 0 (.slice none 0 0) code _ HF.out.2)
  have CN := hide (fun code => demand_no (w.heap.size + 1) 0 (.slice none 0 0) code _ HF.out.2)
  have HB0 := hide HF.out.1
  have hlt := HF.out.2.lt
  clear HF
  generalize hW : encW w d s t (.slice a n cap) = W at *
  unfold encW at hW
  rw [hW]
  clear hW
  refine (CN.out _).mono ?_
  rintro e w1 ⟨rfl, hc1, hg1⟩
  have HC1 := hide hc1
  have HB1 := hide (HB0.out.keep (grown_under hg1 (Nat.le_refl _) (by omega)) (by omega))
  clear hc1 hg1 CD CN HB0
  obtain ⟨_, _, b0, b1, b2, b3⟩ := HB1.out
  go_wp2_with fail
  refine (demand_err (w.heap.size + 1) 0 _ 1 _ _ _ HC1.out).mono ?_
  rintro e w2 ⟨rfl, hw2⟩
  rw [hw2]
  clear hw2
  go_wp2_with fail
  refine (makeRoom_err (w.heap.size + 1) 0 _ 1 _ _ HC1.out).mono ?_
  rintro e w3 ⟨rfl, hw3⟩
  rw [hw3]
  clear hw3
  go_wp2_with fail
  refine (put_err (w.heap.size + 1) 0 0 0 none 1 _ 6 _ (show Cur (w1) _ _ _ _ from HC1.out) (by omega) (by omega) (by omega) (by omega)).mono ?_
  rintro e w4 ⟨rfl, m0, rfl⟩
  go_wp2_with fail
  refine (put_err (w.heap.size + 1) 0 0 0 none 1 _ 6 _ (show Cur (w1.drewN m0) _ _ _ _ from HC1.out) (by omega) (by omega) (by omega) (by omega)).mono ?_
  rintro e w5 ⟨rfl, m1, rfl⟩
  go_wp2_with fail
  refine (put_err (w.heap.size + 1) 0 0 0 none 1 _ 2 _ (show Cur (w1.drewN (m0 + m1)) _ _ _ _ from HC1.out) (by omega) (by omega) (by omega) (by omega)).mono ?_
  rintro e w6 ⟨rfl, m2, rfl⟩
  go_wp2_with fail
  refine (putBytes_err (w.heap.size + 1) 0 0 0 n cap none a 1 _ (show Cur (w1.drewN (m0 + m1 + m2)) _ _ _ _ from HC1.out) (by omega) (by omega) (by omega)).mono ?_
  rintro e w7 ⟨rfl, m3, rfl⟩
  go_wp2_with fail
  refine (passed_none (w.heap.size + 1) _ _ (show Cur (w1.drewN (m0 + m1 + m2 + m3)) _ _ _ _ from HC1.out)).mono ?_
  rintro e w8 ⟨rfl, m4, rfl⟩
  go_wp2_with fail
  refine (frameSum_walk none 0 0 [] _ rfl ⟨by simp, fun j hj => by simp at hj⟩ (by omega)).mono ?_
  rintro e w9 ⟨rfl, hw9⟩
  rw [hw9]
  clear hw9
  go_wp2_with fail
  refine (put_err (w.heap.size + 1) 0 0 0 none 1 _ 4 _ (show Cur (w1.drewN (m0 + m1 + m2 + m3 + m4)) _ _ _ _ from HC1.out) (by omega) (by omega) (by omega) (by omega)).mono ?_
  rintro e w10 ⟨rfl, m5, rfl⟩
  have hB : Below w.heap.size w ((w1.drewN (m0 + m1 + m2 + m3 + m4)).drewN m5) := below_drewN (below_drewN HB1.out.1 _) _
  have HB := hide hB
  obtain ⟨c0, c1, c2, cf⟩ := (show Cur ((w1.drewN (m0 + m1 + m2 + m3 + m4)).drewN m5) _ _ _ _ from HC1.out).cells
  clear HC1 HB1 b0 b1 b2 b3 hB
  generalize (w1.drewN (m0 + m1 + m2 + m3 + m4)).drewN m5 = V at *
  have CA := hide (ansB_err none 0 0 1 (by decide) V.drew (HE.out.below HB.out.drew (Nat.le_refl _)))
  have HK : Hid (V.drew.cell? ⟨w.heap.size + 1, 0, none⟩ = some (.slice none 0 0) ∧ V.drew.cell? ⟨w.heap.size + 1, 2, none⟩ = some (wErr 1)) := hide ⟨c0, c2⟩
  have hlt8 : w.heap.size + 1 < V.heap.size := lt_cell c0
  go_wp2_with fail
  go_region_held3 (fun w' => w'.cell? ⟨w.heap.size + 1, 0, none⟩ = some (.slice none 0 0) ∧ w'.cell? ⟨w.heap.size + 1, 2, none⟩ = some (wErr 1)) (first | with_reducible assumption | with_reducible exact HK.out)
    ((go_at_call 45; refine CA.out.mono ?_; rintro e w88 ⟨rfl, hb88⟩; have hk9 : w88.cell? ⟨w.heap.size + 1, 0, none⟩ = some (.slice none 0 0) ∧ w88.cell? ⟨w.heap.size + 1, 2, none⟩ = some (wErr 1) := ⟨(hb88.cell (p := ⟨w.heap.size + 1, 0, none⟩) hlt8).trans HK.out.1, (hb88.cell (p := ⟨w.heap.size + 1, 2, none⟩) hlt8).trans HK.out.2⟩))
  all_goals
    go_wp2_with fail
    go_ret2
    exact ⟨rfl, HB.out.drew.trans (hb88.mono HB.out.size)⟩
set_option maxHeartbeats 4000000 in
theorem implEnc_badT (d s t : Int) (a : Option Addr) (n cap : Nat) (w : World) (h1 : macOKB d = true) (h2 : macOKB s = true) (ht : ¬ (0 ≤ t ∧ t ≤ 65535)) (hm : n ≤ 1048576) (he : ErrT w) :
    Calls Tryd.prog 12 #[.agg #[.int .i64 d, .int .i64 s, .int .i64 t, .slice a n cap]] w fun e w' => e = .returned (.tuple #[.slice none 0 0, .int .i64 1]) ∧ Below w.heap.size w w' := by
  have HF := hide (encW_facts w d s t (.slice a n cap))
  have HE := hide he
  clear he
  have HT := hide ht
  clear ht
  go_enter Tryd.func12, Tryd.ntmps12
  go_wp2_with (first | (go_at_call 38; refine (isMac_walk _ _).mono ?_; rintro e w' ⟨rfl, rfl⟩) | (go_at_call 39; refine (isType_no _ _ HT.out).mono ?_; rintro e w' ⟨rfl, rfl⟩))
  have CD := hide (fun code => demand_yes (w.heap.size + 1) 0 (.slice none 0 0) code _ HF.out.2)
  have CN := hide (fun code => demand_no (w.heap.size + 1) 0 (.slice none 0 0) code _ HF.out.2)
  have HB0 := hide HF.out.1
  have hlt := HF.out.2.lt
  clear HF
  generalize hW : encW w d s t (.slice a n cap) = W at *
  unfold encW at hW
  rw [hW]
  clear hW
  refine (CN.out _).mono ?_
  rintro e w1 ⟨rfl, hc1, hg1⟩
  have HC1 := hide hc1
  have HB1 := hide (HB0.out.keep (grown_under hg1 (Nat.le_refl _) (by omega)) (by omega))
  clear hc1 hg1 CD CN HB0
  obtain ⟨_, _, b0, b1, b2, b3⟩ := HB1.out
  go_wp2_with fail
  refine (demand_err (w.heap.size + 1) 0 _ 1 _ _ _ HC1.out).mono ?_
  rintro e w2 ⟨rfl, hw2⟩
  rw [hw2]
  clear hw2
  go_wp2_with fail
  refine (makeRoom_err (w.heap.size + 1) 0 _ 1 _ _ HC1.out).mono ?_
  rintro e w3 ⟨rfl, hw3⟩
  rw [hw3]
  clear hw3
  go_wp2_with fail
  refine (put_err (w.heap.size + 1) 0 0 0 none 1 _ 6 _ (show Cur (w1) _ _ _ _ from HC1.out) (by omega) (by omega) (by omega) (by omega)).mono ?_
  rintro e w4 ⟨rfl, m0, rfl⟩
  go_wp2_with fail
  refine (put_err (w.heap.size + 1) 0 0 0 none 1 _ 6 _ (show Cur (w1.drewN m0) _ _ _ _ from HC1.out) (by omega) (by omega) (by omega) (by omega)).mono ?_
  rintro e w5 ⟨rfl, m1, rfl⟩
  go_wp2_with fail
  refine (put_err (w.heap.size + 1) 0 0 0 none 1 _ 2 _ (show Cur (w1.drewN (m0 + m1)) _ _ _ _ from HC1.out) (by omega) (by omega) (by omega) (by omega)).mono ?_
  rintro e w6 ⟨rfl, m2, rfl⟩
  go_wp2_with fail
  refine (putBytes_err (w.heap.size + 1) 0 0 0 n cap none a 1 _ (show Cur (w1.drewN (m0 + m1 + m2)) _ _ _ _ from HC1.out) (by omega) (by omega) (by omega)).mono ?_
  rintro e w7 ⟨rfl, m3, rfl⟩
  go_wp2_with fail
  refine (passed_none (w.heap.size + 1) _ _ (show Cur (w1.drewN (m0 + m1 + m2 + m3)) _ _ _ _ from HC1.out)).mono ?_
  rintro e w8 ⟨rfl, m4, rfl⟩
  go_wp2_with fail
  refine (frameSum_walk none 0 0 [] _ rfl ⟨by simp, fun j hj => by simp at hj⟩ (by omega)).mono ?_
  rintro e w9 ⟨rfl, hw9⟩
  rw [hw9]
  clear hw9
  go_wp2_with fail
  refine (put_err (w.heap.size + 1) 0 0 0 none 1 _ 4 _ (show Cur (w1.drewN (m0 + m1 + m2 + m3 + m4)) _ _ _ _ from HC1.out) (by omega) (by omega) (by omega) (by omega)).mono ?_
  rintro e w10 ⟨rfl, m5, rfl⟩
  have hB : Below w.heap.size w ((w1.drewN (m0 + m1 + m2 + m3 + m4)).drewN m5) := below_drewN (below_drewN HB1.out.1 _) _
  have HB := hide hB
  obtain ⟨c0, c1, c2, cf⟩ := (show Cur ((w1.drewN (m0 + m1 + m2 + m3 + m4)).drewN m5) _ _ _ _ from HC1.out).cells
  clear HC1 HB1 b0 b1 b2 b3 hB
  generalize (w1.drewN (m0 + m1 + m2 + m3 + m4)).drewN m5 = V at *
  have CA := hide (ansB_err none 0 0 1 (by decide) V.drew (HE.out.below HB.out.drew (Nat.le_refl _)))
  have HK : Hid (V.drew.cell? ⟨w.heap.size + 1, 0, none⟩ = some (.slice none 0 0) ∧ V.drew.cell? ⟨w.heap.size + 1, 2, none⟩ = some (wErr 1)) := hide ⟨c0, c2⟩
  have hlt8 : w.heap.size + 1 < V.heap.size := lt_cell c0
  go_wp2_with fail
  go_region_held3 (fun w' => w'.cell? ⟨w.heap.size + 1, 0, none⟩ = some (.slice none 0 0) ∧ w'.cell? ⟨w.heap.size + 1, 2, none⟩ = some (wErr 1)) (first | with_reducible assumption | with_reducible exact HK.out)
    ((go_at_call 45; refine CA.out.mono ?_; rintro e w88 ⟨rfl, hb88⟩; have hk9 : w88.cell? ⟨w.heap.size + 1, 0, none⟩ = some (.slice none 0 0) ∧ w88.cell? ⟨w.heap.size + 1, 2, none⟩ = some (wErr 1) := ⟨(hb88.cell (p := ⟨w.heap.size + 1, 0, none⟩) hlt8).trans HK.out.1, (hb88.cell (p := ⟨w.heap.size + 1, 2, none⟩) hlt8).trans HK.out.2⟩))
  all_goals
    go_wp2_with fail
    go_ret2
    exact ⟨rfl, HB.out.drew.trans (hb88.mono HB.out.size)⟩
set_option maxHeartbeats 4000000 in
theorem implEnc_badN (d s t : Int) (a : Option Addr) (n cap : Nat) (w : World) (h1 : macOKB d = true) (h2 : macOKB s = true) (ht0 : 0 ≤ t) (ht1 : t ≤ 65535) (hsz : ¬ n ≤ 1500) (hm : n ≤ 1048576) (he : ErrT w) :
    Calls Tryd.prog 12 #[.agg #[.int .i64 d, .int .i64 s, .int .i64 t, .slice a n cap]] w fun e w' => e = .returned (.tuple #[.slice none 0 0, .int .i64 7]) ∧ Below w.heap.size w w' := by
  have HF := hide (encW_facts w d s t (.slice a n cap))
  have HE := hide he
  clear he
  have hle : decide ((n : Int) ≤ 1500) = false := decide_eq_false (by omega)
  go_enter Tryd.func12, Tryd.ntmps12
  go_wp2_with (first | (go_at_call 38; refine (isMac_walk _ _).mono ?_; rintro e w' ⟨rfl, rfl⟩) | (go_at_call 39; refine (isType_yes _ _ ht0 ht1).mono ?_; rintro e w' ⟨rfl, rfl⟩))
  have CD := hide (fun code => demand_yes (w.heap.size + 1) 0 (.slice none 0 0) code _ HF.out.2)
  have CN := hide (fun code => demand_no (w.heap.size + 1) 0 (.slice none 0 0) code _ HF.out.2)
  have HB0 := hide HF.out.1
  have hlt := HF.out.2.lt
  clear HF
  generalize hW : encW w d s t (.slice a n cap) = W at *
  unfold encW at hW
  rw [hW]
  clear hW
  refine (CD.out _).mono ?_
  rintro e w0 ⟨rfl, hw0⟩
  rw [hw0]
  clear hw0
  obtain ⟨_, _, b0, b1, b2, b3⟩ := HB0.out
  go_wp2_with fail
  refine (CN.out _).mono ?_
  rintro e w1 ⟨rfl, hc1, hg1⟩
  have HC1 := hide hc1
  have HB1 := hide (HB0.out.keep (grown_under hg1 (Nat.le_refl _) (by omega)) (by omega))
  clear hc1 hg1 CD CN HB0 b0 b1 b2 b3
  obtain ⟨_, _, b0, b1, b2, b3⟩ := HB1.out
  go_wp2_with fail
  refine (makeRoom_err (w.heap.size + 1) 0 _ 7 _ _ HC1.out).mono ?_
  rintro e w3 ⟨rfl, hw3⟩
  rw [hw3]
  clear hw3
  go_wp2_with fail
  refine (put_err (w.heap.size + 1) 0 0 0 none 7 _ 6 _ (show Cur (w1) _ _ _ _ from HC1.out) (by omega) (by omega) (by omega) (by omega)).mono ?_
  rintro e w4 ⟨rfl, m0, rfl⟩
  go_wp2_with fail
  refine (put_err (w.heap.size + 1) 0 0 0 none 7 _ 6 _ (show Cur (w1.drewN m0) _ _ _ _ from HC1.out) (by omega) (by omega) (by omega) (by omega)).mono ?_
  rintro e w5 ⟨rfl, m1, rfl⟩
  go_wp2_with fail
  refine (put_err (w.heap.size + 1) 0 0 0 none 7 _ 2 _ (show Cur (w1.drewN (m0 + m1)) _ _ _ _ from HC1.out) (by omega) (by omega) (by omega) (by omega)).mono ?_
  rintro e w6 ⟨rfl, m2, rfl⟩
  go_wp2_with fail
  refine (putBytes_err (w.heap.size + 1) 0 0 0 n cap none a 7 _ (show Cur (w1.drewN (m0 + m1 + m2)) _ _ _ _ from HC1.out) (by omega) (by omega) (by omega)).mono ?_
  rintro e w7 ⟨rfl, m3, rfl⟩
  go_wp2_with fail
  refine (passed_none (w.heap.size + 1) _ _ (show Cur (w1.drewN (m0 + m1 + m2 + m3)) _ _ _ _ from HC1.out)).mono ?_
  rintro e w8 ⟨rfl, m4, rfl⟩
  go_wp2_with fail
  refine (frameSum_walk none 0 0 [] _ rfl ⟨by simp, fun j hj => by simp at hj⟩ (by omega)).mono ?_
  rintro e w9 ⟨rfl, hw9⟩
  rw [hw9]
  clear hw9
  go_wp2_with fail
  refine (put_err (w.heap.size + 1) 0 0 0 none 7 _ 4 _ (show Cur (w1.drewN (m0 + m1 + m2 + m3 + m4)) _ _ _ _ from HC1.out) (by omega) (by omega) (by omega) (by omega)).mono ?_
  rintro e w10 ⟨rfl, m5, rfl⟩
  have hB : Below w.heap.size w ((w1.drewN (m0 + m1 + m2 + m3 + m4)).drewN m5) := below_drewN (below_drewN HB1.out.1 _) _
  have HB := hide hB
  obtain ⟨c0, c1, c2, cf⟩ := (show Cur ((w1.drewN (m0 + m1 + m2 + m3 + m4)).drewN m5) _ _ _ _ from HC1.out).cells
  clear HC1 HB1 b0 b1 b2 b3 hB
  generalize (w1.drewN (m0 + m1 + m2 + m3 + m4)).drewN m5 = V at *
  have CA := hide (ansB_err none 0 0 7 (by decide) V.drew (HE.out.below HB.out.drew (Nat.le_refl _)))
  have HK : Hid (V.drew.cell? ⟨w.heap.size + 1, 0, none⟩ = some (.slice none 0 0) ∧ V.drew.cell? ⟨w.heap.size + 1, 2, none⟩ = some (wErr 7)) := hide ⟨c0, c2⟩
  have hlt8 : w.heap.size + 1 < V.heap.size := lt_cell c0
  go_wp2_with fail
  go_region_held3 (fun w' => w'.cell? ⟨w.heap.size + 1, 0, none⟩ = some (.slice none 0 0) ∧ w'.cell? ⟨w.heap.size + 1, 2, none⟩ = some (wErr 7)) (first | with_reducible assumption | with_reducible exact HK.out)
    ((go_at_call 45; refine CA.out.mono ?_; rintro e w88 ⟨rfl, hb88⟩; have hk9 : w88.cell? ⟨w.heap.size + 1, 0, none⟩ = some (.slice none 0 0) ∧ w88.cell? ⟨w.heap.size + 1, 2, none⟩ = some (wErr 7) := ⟨(hb88.cell (p := ⟨w.heap.size + 1, 0, none⟩) hlt8).trans HK.out.1, (hb88.cell (p := ⟨w.heap.size + 1, 2, none⟩) hlt8).trans HK.out.2⟩))
  all_goals
    go_wp2_with fail
    go_ret2
    exact ⟨rfl, HB.out.drew.trans (hb88.mono HB.out.size)⟩
/-- EncodeFrame of the program. -/
theorem implEnc_walk (d s t : Int) (a : Option Addr) (n cap : Nat) (zs : List Int) (w : World) (hn : zs.length = n) (ha : Arr w a zs) (hm : n ≤ 1048576) (he : ErrT w) :
    Calls Tryd.prog 12 #[.agg #[.int .i64 d, .int .i64 s, .int .i64 t, .slice a n cap]] w fun e w' => ∃ v : Value, e = .returned (.tuple #[v, .int .i64 (frC d s t n)]) ∧ OwnB w' w.heap.size v (frL d s t zs) ∧ Below w.heap.size w w' := by
  have bad : ∀ c : Int, c ≠ 0 → frC d s t n = c → (Calls Tryd.prog 12 #[.agg #[.int .i64 d, .int .i64 s, .int .i64 t, .slice a n cap]] w fun e w' => e = .returned (.tuple #[.slice none 0 0, .int .i64 c]) ∧ Below w.heap.size w w') →
      Calls Tryd.prog 12 #[.agg #[.int .i64 d, .int .i64 s, .int .i64 t, .slice a n cap]] w fun e w' => ∃ v : Value, e = .returned (.tuple #[v, .int .i64 (frC d s t n)]) ∧ OwnB w' w.heap.size v (frL d s t zs) ∧ Below w.heap.size w w' := by
    intro c hc e0 h
    refine h.mono ?_
    rintro e w' ⟨rfl, hb⟩
    refine ⟨_, by rw [e0], ?_, hb⟩
    unfold frL
    rw [hn, e0, if_neg hc]
    exact ⟨World.ownsRow_nil _ _ _ _, by simp⟩
  cases h1 : macOKB d with
  | false => exact bad 1 (by decide) (by unfold frC frOK; rw [h1]; rfl) (implEnc_badD d s t a n cap w h1 hm he)
  | true =>
    cases h2 : macOKB s with
    | false => exact bad 1 (by decide) (by unfold frC frOK; rw [h1, h2]; rfl) (implEnc_badS d s t a n cap w h1 h2 hm he)
    | true =>
      by_cases ht : 0 ≤ t ∧ t ≤ 65535
      · have hf : frOK d s t = true := by unfold frOK; rw [h1, h2, decide_eq_true ht.1, decide_eq_true ht.2]; rfl
        by_cases hsz : n ≤ 1500
        · refine (implEnc_ok d s t a n cap zs w hf hn ha hsz).mono ?_
          rintro e w' ⟨v, rfl, hO, hb⟩
          have e0 : frC d s t n = 0 := by unfold frC; rw [hf, if_pos rfl, if_neg (by omega)]
          refine ⟨v, by rw [e0], ?_, hb⟩
          unfold frL
          rw [hn, e0, if_pos rfl]
          exact hO
        · exact bad 7 (by decide) (by unfold frC; rw [hf, if_pos rfl, if_pos (by omega)]) (implEnc_badN d s t a n cap w h1 h2 ht.1 ht.2 hsz hm he)
      · have hf : frOK d s t = false := by
          unfold frOK
          rw [h1, h2, Bool.eq_false_iff]
          intro hh
          simp only [Bool.and_eq_true, decide_eq_true_eq] at hh
          exact ht hh.2
        exact bad 1 (by decide) (by unfold frC; rw [hf]; rfl) (implEnc_badT d s t a n cap w h1 h2 ht hm he)
end Go.Proofs.YthoinddlnmailaaDoor
