/-
Contracts of functions of this seat.
-/
import Derived.Test.YtddkcgngpclgfaaRows
import Derived.WalkKit
import Derived.ProofKit
import Derived.OpenShut
import Derived.Test.YtddkcgngpclgfaaBp3
import Derived.Deep.AppendLies
namespace Go.Proofs.Ytddkcgngpclgfaa
open Go.ChangeShapes Go.WideShapes Go.ChangeAt Go.RowKit
set_option linter.unusedVariables false
set_option maxRecDepth 100000
set_option maxHeartbeats 16000000 in
theorem specSplit_form {u x : Int} {os : List PieceM} (k : Int) (hok : bOK u x os) (hf : ¬ (1 ≤ k ∧ k ≤ 65535)) : BoardSplitP 22 (fun _ => True) u x os k 0 0 [] 1 := by
  intro a n cap w hn ha hc hm _
  obtain ⟨hb2, hX, hR⟩ := two_boxes w #[.int .i64 u, .int .i64 x, .slice a n cap] #[.int .i64 0, .int .i64 0, .slice none 0 0] 29 29
  have HB2 := hide hb2; have HX := hide hX; have HR := hide hR
  have k0 := hX.cell 0 _ rfl; have k1 := hX.cell 1 _ rfl; have k2 := hX.cell 2 _ rfl
  have CV := hide (l15OK_walk u x a n cap os ((w.alloc (.cells #[.int .i64 u, .int .i64 x, .slice a n cap] 29)).alloc (.cells #[.int .i64 0, .int .i64 0, .slice none 0 0] 29)) hn (ha.below hb2 (Nat.le_refl _)) hm)
  rw [bokB_yes hok] at CV
  have HOK := hide hok
  have HN := hide hn
  have HA := hide (ha.below hb2 (Nat.le_refl _))
  have hV : w.heap.size + 1 < ((w.alloc (.cells #[.int .i64 u, .int .i64 x, .slice a n cap] 29)).alloc (.cells #[.int .i64 0, .int .i64 0, .slice none 0 0] 29)).heap.size := hR.lt
  have h1 : inB k 1 65535 = false := decide_eq_false hf
  clear hn ha hok hb2 hX hR hf
  go_enter Try.func22, Try.ntmps22
  go_wp2_with fail
  refine CV.out.mono ?_
  rintro e w1 ⟨rfl, hw1⟩
  have HR1 := hide (HR.out.next hw1)
  have HB1 : Hid (Below w.heap.size w w1) := hide (HB2.out.trans (hw1.mono HB2.out.size))
  have r0 := HR1.out.cell 0 _ rfl; have r1 := HR1.out.cell 1 _ rfl; have r2 := HR1.out.cell 2 _ rfl; have rf := HR1.out.frozen
  clear hw1 CV k0 k1 k2 HB2 HX HR
  go_wp2_with (go_at_call 32; refine (In_walk _ _ _ _).mono ?_; rintro e w9 ⟨rfl, hq⟩; rw [hq]; clear hq)
  exact bodyPost_ret (v := .tuple #[.agg #[.int .i64 0, .int .i64 0, .slice none 0 0], .int .i64 1]) (by simp [results, Try.results22, go_sem, r0, r1, r2]) rfl ⟨_, rfl, ownP_nil _ _, below_gr HB1.out (gr_set (gr_set (gr_set (grown_reflp _ _) 0 _) 1 _) 2 _) HB1.out.size (Nat.le_succ _)⟩

set_option maxHeartbeats 16000000 in
theorem specSplit_full {u x : Int} {os : List PieceM} (k : Int) (hok : bOK u x os) (hs : 1 ≤ k ∧ k ≤ 65535) (hf : 4096 < cntS k os) : BoardSplitP 22 (fun _ => True) u x os k 0 0 [] 18 := by
  intro a n cap w hn ha hc hm _
  obtain ⟨hb2, hX, hR⟩ := two_boxes w #[.int .i64 u, .int .i64 x, .slice a n cap] #[.int .i64 0, .int .i64 0, .slice none 0 0] 29 29
  have HB2 := hide hb2; have HX := hide hX; have HR := hide hR
  have k0 := hX.cell 0 _ rfl; have k1 := hX.cell 1 _ rfl; have k2 := hX.cell 2 _ rfl
  have CV := hide (l15OK_walk u x a n cap os ((w.alloc (.cells #[.int .i64 u, .int .i64 x, .slice a n cap] 29)).alloc (.cells #[.int .i64 0, .int .i64 0, .slice none 0 0] 29)) hn (ha.below hb2 (Nat.le_refl _)) hm)
  rw [bokB_yes hok] at CV
  have HOK := hide hok
  have HN := hide hn
  have HA := hide (ha.below hb2 (Nat.le_refl _))
  have hV : w.heap.size + 1 < ((w.alloc (.cells #[.int .i64 u, .int .i64 x, .slice a n cap] 29)).alloc (.cells #[.int .i64 0, .int .i64 0, .slice none 0 0] 29)).heap.size := hR.lt
  have h1 : inB k 1 65535 = true := inB_iff.2 hs
  obtain ⟨kk1, kk2⟩ := hs
  have hk0 : k ≠ 0 := by omega
  have hkb : (k == 0) = false := beq_eq_false_iff_ne.2 hk0
  have HSB : Hid (∀ i, 0 ≤ cntS k (os.take i) ∧ cntS k (os.take i) ≤ 1099511627776) := hide (fun i => by
    have h := hok
    rw [← List.take_append_drop i os] at h
    obtain ⟨m, h1, h2⟩ := chk_app _ _ _ _ h.2.2.2
    have h3 := cnt_le kk1 _ _ _ h1
    have h4 := chk_le _ _ _ h2
    have := h.1; have := h.2.1
    omega)
  clear hn ha hok hb2 hX hR
  go_enter Try.func22, Try.ntmps22
  go_wp2_with fail
  refine CV.out.mono ?_
  rintro e w1 ⟨rfl, hw1⟩
  have HR1 := hide (HR.out.next hw1)
  have HX1 := hide (HX.out.next hw1)
  have HB1 : Hid (Below w.heap.size w w1) := hide (HB2.out.trans (hw1.mono HB2.out.size))
  have HA1 := hide (HA.out.below hw1 (Nat.le_refl _))
  have hV1 : w.heap.size + 1 < w1.heap.size := HR1.out.lt
  clear hw1 CV k0 k1 k2 HB2 HX HR HA
  have k0 := HX1.out.cell 0 _ rfl; have k1 := HX1.out.cell 1 _ rfl; have k2 := HX1.out.cell 2 _ rfl
  go_upto_region 4 with (go_at_call 32; refine (In_walk _ _ _ _).mono ?_; rintro e w9 ⟨rfl, hq⟩; rw [hq]; clear hq)
  have hal := (Below.refl w1.heap.size w1).alloc (Nat.le_refl _) (.cells #[.int .i64 u, .int .i64 x, .slice none 0 0] 29)
  have HO2 : Hid (HoldV (w1.alloc (.cells #[.int .i64 u, .int .i64 x, .slice none 0 0] 29)) w1.heap.size _ 29) := hide (hv_new w1 _ _)
  have HX2 := hide (HX1.out.next hal); have HR2 := hide (HR1.out.next hal); have HB2 := hide (HB1.out.trans (hal.mono HB1.out.size))
  have HA2 := hide (HA1.out.below hal (Nat.le_refl _))
  clear hal HX1 HR1 HB1 HA1 k0 k1 k2
  generalize w1.alloc (.cells #[.int .i64 u, .int .i64 x, .slice none 0 0] 29) = V2 at *
  generalize w1.heap.size = O at *
  go_wp2_with fail
  go_loopw [7, 8] (fun s t w2 => ∃ i : Nat, i ≤ n ∧ t = .int .i64 i ∧ s = .int .i64 (cntS k (os.take i)) ∧ Hid (HoldV w2 w.heap.size #[.int .i64 u, .int .i64 x, .slice a n cap] 29) ∧ Hid (HoldV w2 (w.heap.size + 1) #[.int .i64 0, .int .i64 0, .slice none 0 0] 29) ∧ Hid (HoldV w2 O #[.int .i64 u, .int .i64 x, .slice none 0 0] 29) ∧ Hid (Below V2.heap.size V2 w2)) (fun _ t _ => n - (intOf t).toNat)
  case atStart => exact ⟨0, Nat.zero_le _, rfl, rfl, HX2, HR2, HO2, hide (Below.refl _ _)⟩
  case round =>
    obtain ⟨i, hi, rfl, rfl, HX, HR, HO, HB⟩ := hrel
    have k2 := HX.out.cell 2 _ rfl
    by_cases hlt : i < n
    · have hio : i < os.length := by rw [HN.out]; exact hlt
      obtain ⟨b, off, rfl, hbs, c0, c1, _, _, _, _⟩ := piece_cells (HA2.out.below HB.out (Nat.le_refl _)) hio
      have HT : Hid (cntS k (os.take (i + 1)) = cntS k (os.take i) + (os[i].f1 - os[i].f0 + k - 1) / k) := hide (by rw [take_snoc hio, cntS_app]; simp [cntS])
      obtain ⟨s0, s1⟩ := HSB.out i
      obtain ⟨q0, q1, q2⟩ : 0 ≤ os[i].f0 ∧ os[i].f0 < os[i].f1 ∧ os[i].f1 ≤ 1099511627776 := bOK_piece HOK.out (List.getElem_mem hio)
      generalize cntS k (os.take i) = s at *
      generalize os[i].f0 = x0 at *
      generalize os[i].f1 = x1 at *
      have e0 : 0 ≤ (x1 - x0 + k - 1) / k := Int.ediv_nonneg (by omega) (by omega)
      have e1 : (x1 - x0 + k - 1) / k ≤ 1099511693312 := by
        have := Int.ediv_le_self (a := x1 - x0 + k - 1) k (by omega)
        omega
      have w1' : IntKind.i64.wrap (x1 - x0) = x1 - x0 := by rw [IntKind.wrap_i64]; omega
      have w2' : IntKind.i64.wrap (x1 - x0 + k) = x1 - x0 + k := by rw [IntKind.wrap_i64]; omega
      have w3' : IntKind.i64.wrap (x1 - x0 + k - 1) = x1 - x0 + k - 1 := by rw [IntKind.wrap_i64]; omega
      have w4' : (x1 - x0 + k - 1).tdiv k = (x1 - x0 + k - 1) / k := Int.tdiv_eq_ediv_of_nonneg (by omega)
      have w5' : IntKind.i64.wrap ((x1 - x0 + k - 1) / k) = (x1 - x0 + k - 1) / k := by rw [IntKind.wrap_i64]; omega
      have w6' : IntKind.i64.wrap (s + (x1 - x0 + k - 1) / k) = s + (x1 - x0 + k - 1) / k := by rw [IntKind.wrap_i64]; omega
      go_wp2_with fail
      go_quiet (fail)
      go_wp2_with fail
      exact ⟨⟨i + 1, by omega, by go_num, by rw [HT.out], hide (HX.out.next (below_drewN (Below.refl _ _) nq)), hide (HR.out.next (below_drewN (Below.refl _ _) nq)), hide (HO.out.next (below_drewN (Below.refl _ _) nq)), hide (HB.out.trans ((below_drewN (Below.refl _ _) nq : Below wr.heap.size wr _).mono HB.out.size))⟩, by simp [intOf]; omega⟩
    · have hin : i = n := by omega
      have HF : Hid (cntS k (os.take i) = cntS k os) := hide (by rw [List.take_of_length_le (by rw [HN.out, hin]; exact Nat.le_refl _)])
      rw [← HF.out] at hf
      have r0 := HR.out.cell 0 _ rfl; have r1 := HR.out.cell 1 _ rfl; have r2 := HR.out.cell 2 _ rfl; have rf := HR.out.frozen
      have HB9 := hide (HB2.out.trans (HB.out.mono HB2.out.size))
      generalize cntS k (os.take i) = s at *
      go_wp2_with fail
      exact bodyPost_ret (v := .tuple #[.agg #[.int .i64 0, .int .i64 0, .slice none 0 0], .int .i64 18]) (by simp [results, Try.results22, go_sem, r0, r1, r2]) rfl ⟨_, rfl, ownP_nil _ _, below_gr HB9.out (gr_set (gr_set (gr_set (grown_reflp _ _) 0 _) 1 _) 2 _) HB9.out.size (Nat.le_succ _)⟩

set_option maxHeartbeats 16000000 in
theorem specSplit_yes {u x : Int} {os : List PieceM} (k : Int) (hok : bOK u x os) (hs : 1 ≤ k ∧ k ≤ 65535) (hf : ¬ 4096 < cntS k os) : BoardSplitP 22 (fun _ => True) u x os k u x (splitL k os) 0 := by
  intro a n cap w hn ha hc hm _
  obtain ⟨hb2, hX, hR⟩ := two_boxes w #[.int .i64 u, .int .i64 x, .slice a n cap] #[.int .i64 0, .int .i64 0, .slice none 0 0] 29 29
  have HB2 := hide hb2; have HX := hide hX; have HR := hide hR
  have k0 := hX.cell 0 _ rfl; have k1 := hX.cell 1 _ rfl; have k2 := hX.cell 2 _ rfl
  have CV := hide (l15OK_walk u x a n cap os ((w.alloc (.cells #[.int .i64 u, .int .i64 x, .slice a n cap] 29)).alloc (.cells #[.int .i64 0, .int .i64 0, .slice none 0 0] 29)) hn (ha.below hb2 (Nat.le_refl _)) hm)
  rw [bokB_yes hok] at CV
  have HOK := hide hok
  have HN := hide hn
  have HA0 := hide ha
  have HA := hide (ha.below hb2 (Nat.le_refl _))
  have hV : w.heap.size + 1 < ((w.alloc (.cells #[.int .i64 u, .int .i64 x, .slice a n cap] 29)).alloc (.cells #[.int .i64 0, .int .i64 0, .slice none 0 0] 29)).heap.size := hR.lt
  have h1 : inB k 1 65535 = true := inB_iff.2 hs
  obtain ⟨kk1, kk2⟩ := hs
  have hk0 : k ≠ 0 := by omega
  have hkb : (k == 0) = false := beq_eq_false_iff_ne.2 hk0
  have HSB : Hid (∀ i, 0 ≤ cntS k (os.take i) ∧ cntS k (os.take i) ≤ 1099511627776) := hide (fun i => by
    have h := hok
    rw [← List.take_append_drop i os] at h
    obtain ⟨m, h1, h2⟩ := chk_app _ _ _ _ h.2.2.2
    have h3 := cnt_le kk1 _ _ _ h1
    have h4 := chk_le _ _ _ h2
    have := h.1; have := h.2.1
    omega)
  obtain ⟨ip, hi, hz0, hz1, hz2⟩ := info_parts Try.infoPiece
  have HI := hide hi; have HI0 := hide hz0; have HI1 := hide hz1; have HI2 := hide hz2
  have HLS : Hid ((splitL k os).length ≤ 4096) := hide (by
    have h1 := split_len kk1 os (fun o ho => (bOK_piece hok ho).2.1)
    omega)
  clear hi hz0 hz1 hz2
  clear hn ha hok hb2 hX hR
  go_enter Try.func22, Try.ntmps22
  go_wp2_with fail
  refine CV.out.mono ?_
  rintro e w1 ⟨rfl, hw1⟩
  have HR1 := hide (HR.out.next hw1)
  have HX1 := hide (HX.out.next hw1)
  have HB1 : Hid (Below w.heap.size w w1) := hide (HB2.out.trans (hw1.mono HB2.out.size))
  have HA1 := hide (HA.out.below hw1 (Nat.le_refl _))
  have hV1 : w.heap.size + 1 < w1.heap.size := HR1.out.lt
  clear hw1 CV k0 k1 k2 HB2 HX HR HA
  have k0 := HX1.out.cell 0 _ rfl; have k1 := HX1.out.cell 1 _ rfl; have k2 := HX1.out.cell 2 _ rfl
  go_upto_region 4 with (go_at_call 32; refine (In_walk _ _ _ _).mono ?_; rintro e w9 ⟨rfl, hq⟩; rw [hq]; clear hq)
  have hal := (Below.refl w1.heap.size w1).alloc (Nat.le_refl _) (.cells #[.int .i64 u, .int .i64 x, .slice none 0 0] 29)
  have HO2 : Hid (HoldV (w1.alloc (.cells #[.int .i64 u, .int .i64 x, .slice none 0 0] 29)) w1.heap.size _ 29) := hide (hv_new w1 _ _)
  have HX2 := hide (HX1.out.next hal); have HR2 := hide (HR1.out.next hal); have HB2 := hide (HB1.out.trans (hal.mono HB1.out.size))
  have HA2 := hide (HA1.out.below hal (Nat.le_refl _))
  clear hal HX1 HR1 HB1 HA1 k0 k1 k2
  generalize w1.alloc (.cells #[.int .i64 u, .int .i64 x, .slice none 0 0] 29) = V2 at *
  generalize w1.heap.size = O at *
  go_wp2_with fail
  go_loopw [7, 8] (fun s t w2 => ∃ i : Nat, i ≤ n ∧ t = .int .i64 i ∧ s = .int .i64 (cntS k (os.take i)) ∧ Hid (HoldV w2 w.heap.size #[.int .i64 u, .int .i64 x, .slice a n cap] 29) ∧ Hid (HoldV w2 (w.heap.size + 1) #[.int .i64 0, .int .i64 0, .slice none 0 0] 29) ∧ Hid (HoldV w2 O #[.int .i64 u, .int .i64 x, .slice none 0 0] 29) ∧ Hid (Below V2.heap.size V2 w2)) (fun _ t _ => n - (intOf t).toNat)
  case atStart => exact ⟨0, Nat.zero_le _, rfl, rfl, HX2, HR2, HO2, hide (Below.refl _ _)⟩
  case round =>
    obtain ⟨i, hi, rfl, rfl, HX, HR, HO, HB⟩ := hrel
    have k2 := HX.out.cell 2 _ rfl
    by_cases hlt : i < n
    · have hio : i < os.length := by rw [HN.out]; exact hlt
      obtain ⟨b, off, rfl, hbs, c0, c1, _, _, _, _⟩ := piece_cells (HA2.out.below HB.out (Nat.le_refl _)) hio
      have HT : Hid (cntS k (os.take (i + 1)) = cntS k (os.take i) + (os[i].f1 - os[i].f0 + k - 1) / k) := hide (by rw [take_snoc hio, cntS_app]; simp [cntS])
      obtain ⟨s0, s1⟩ := HSB.out i
      obtain ⟨q0, q1, q2⟩ : 0 ≤ os[i].f0 ∧ os[i].f0 < os[i].f1 ∧ os[i].f1 ≤ 1099511627776 := bOK_piece HOK.out (List.getElem_mem hio)
      generalize cntS k (os.take i) = s at *
      generalize os[i].f0 = x0 at *
      generalize os[i].f1 = x1 at *
      have e0 : 0 ≤ (x1 - x0 + k - 1) / k := Int.ediv_nonneg (by omega) (by omega)
      have e1 : (x1 - x0 + k - 1) / k ≤ 1099511693312 := by
        have := Int.ediv_le_self (a := x1 - x0 + k - 1) k (by omega)
        omega
      have w1' : IntKind.i64.wrap (x1 - x0) = x1 - x0 := by rw [IntKind.wrap_i64]; omega
      have w2' : IntKind.i64.wrap (x1 - x0 + k) = x1 - x0 + k := by rw [IntKind.wrap_i64]; omega
      have w3' : IntKind.i64.wrap (x1 - x0 + k - 1) = x1 - x0 + k - 1 := by rw [IntKind.wrap_i64]; omega
      have w4' : (x1 - x0 + k - 1).tdiv k = (x1 - x0 + k - 1) / k := Int.tdiv_eq_ediv_of_nonneg (by omega)
      have w5' : IntKind.i64.wrap ((x1 - x0 + k - 1) / k) = (x1 - x0 + k - 1) / k := by rw [IntKind.wrap_i64]; omega
      have w6' : IntKind.i64.wrap (s + (x1 - x0 + k - 1) / k) = s + (x1 - x0 + k - 1) / k := by rw [IntKind.wrap_i64]; omega
      go_wp2_with fail
      go_quiet (fail)
      go_wp2_with fail
      exact ⟨⟨i + 1, by omega, by go_num, by rw [HT.out], hide (HX.out.next (below_drewN (Below.refl _ _) nq)), hide (HR.out.next (below_drewN (Below.refl _ _) nq)), hide (HO.out.next (below_drewN (Below.refl _ _) nq)), hide (HB.out.trans ((below_drewN (Below.refl _ _) nq : Below wr.heap.size wr _).mono HB.out.size))⟩, by simp [intOf]; omega⟩
    · have hin : i = n := by omega
      have HF : Hid (cntS k (os.take i) = cntS k os) := hide (by rw [List.take_of_length_le (by rw [HN.out, hin]; exact Nat.le_refl _)])
      have hf2 : ¬ 4096 < cntS k (os.take i) := by rw [HF.out]; exact Int.not_lt.2 hf
      generalize cntS k (os.take i) = sv at *
      have HX4 := hide HX.out; have HR4 := hide HR.out; have HO4 := hide HO.out; have HB4 := hide (HB2.out.trans (HB.out.mono HB2.out.size))
      have hOl : O < wr.heap.size := HO.out.lt
      have HA4 := hide (HA2.out.below HB.out (Nat.le_refl _))
      clear HX HR HO HB HF hf
      go_wp2_with fail
      go_loopw [9] (fun t w2 => ∃ (j m : Nat) (v : Value), j ≤ n ∧ t = .int .i64 j ∧ Hid (RowP w2 (O + 1) v m (splitL k (os.take j))) ∧ Hid ((splitL k (os.take j)).length = m) ∧ Hid (HoldV w2 w.heap.size #[.int .i64 u, .int .i64 x, .slice a n cap] 29) ∧ Hid (HoldV w2 (w.heap.size + 1) #[.int .i64 0, .int .i64 0, .slice none 0 0] 29) ∧ Hid (HoldV w2 O #[.int .i64 u, .int .i64 x, v] 29) ∧ Hid (Below w.heap.size w w2)) (fun t _ => n - (intOf t).toNat)
      case atStart => exact ⟨0, 0, .slice none 0 0, Nat.zero_le _, rfl, hide ⟨rfl, .inl ⟨rfl, rfl⟩⟩, hide rfl, HX4, HR4, HO4, HB4⟩
      case round =>
        rename World => wk
        obtain ⟨j, m, v, hj, rfl, HV, HM, HX, HR, HO, HB⟩ := hrel
        obtain ⟨bz, nz, rfl⟩ := HV.out.form
        have k2 := HX.out.cell 2 _ rfl
        by_cases hlt2 : j < n
        · have hjo : j < os.length := by rw [HN.out]; exact hlt2
          have HNA : Hid (ArrP wk a (os.flatMap valPiece)) := hide (HA0.out.below HB.out (Nat.le_refl _))
          obtain ⟨b, off, hab, hbs, c0, c1, c2, c3, c4, c5⟩ := piece_cells HNA.out hjo
          subst hab
          obtain ⟨q0, q1, q2⟩ : 0 ≤ os[j].f0 ∧ os[j].f0 < os[j].f1 ∧ os[j].f1 ≤ 1099511627776 := bOK_piece HOK.out (List.getElem_mem hjo)
          have HT : Hid (splitL k (os.take (j + 1)) = splitL k (os.take j) ++ cutL k os[j]) := hide (by rw [take_snoc hjo]; unfold splitL; rw [List.flatMap_append]; simp)
          have HTL : Hid ((splitL k (os.take (j + 1))).length ≤ 4096) := hide (by
            have h1 := HLS.out
            rw [← List.take_append_drop (j + 1) os] at h1
            unfold splitL at h1 ⊢
            rw [List.flatMap_append, List.length_append] at h1
            omega)
          generalize os[j] = qq at *
          obtain ⟨x0, x1, x2, x3, x4, x5⟩ := qq
          try dsimp only at c0 c1 c2 c3 c4 c5 q0 q1 q2
          have hal := (Below.refl wk.heap.size wk).alloc (Nat.le_refl _) (.cells #[.int .i64 x0, .int .i64 x1, .int .i64 x2, .int .i64 x3, .bool x4, .bool x5] 45)
          have HPB := hide (hv_new wk #[.int .i64 x0, .int .i64 x1, .int .i64 x2, .int .i64 x3, .bool x4, .bool x5] 45)
          have hOk : O < wk.heap.size := HO.out.lt
          have hXk : w.heap.size < wk.heap.size := HX.out.lt
          have HV2 := hide (HV.out.next hal); have HX2' := hide (HX.out.next hal); have HR2' := hide (HR.out.next hal); have HO2' := hide (HO.out.next hal); have HB2' := hide (HB.out.trans (hal.mono HB.out.size))
          have r0 := HPB.out.cell 0 _ rfl; have r1 := HPB.out.cell 1 _ rfl; have r2 := HPB.out.cell 2 _ rfl; have r3 := HPB.out.cell 3 _ rfl; have r4 := HPB.out.cell 4 _ rfl; have r5 := HPB.out.cell 5 _ rfl
          have HOB : Hid (∀ b, (Value.slice bz m nz).ownBlock = some b → b ≠ wk.heap.size) := hide (fun b hb e => by have := ownsAt.lt (ownsAt.of_row HV.out) b hb; omega)
          clear hal HV HX HR HO HB
          go_wp2_with fail
          clear c0 c1 c2 c3 c4 c5 r0 r1 r2 r3 r4 r5 k2
          generalize wk.alloc (.cells #[.int .i64 x0, .int .i64 x1, .int .i64 x2, .int .i64 x3, .bool x4, .bool x5] 45) = V3 at *
          obtain ⟨PB, hPB⟩ : ∃ PB, PB = wk.heap.size := ⟨_, rfl⟩
          rw [← hPB] at HPB HOB hOk hXk ⊢
          clear hPB
          go_loopw [11] (fun t w2 => ∃ (at_ : Int) (dn : List PieceM) (v : Value) (m2 : Nat), t = .int .i64 at_ ∧ x0 ≤ at_ ∧ at_ ≤ 1099511693312 ∧ Hid ((at_ < x1 ∧ dn ++ cutL k ⟨at_, x1, x2, x3, x4, x5⟩ = cutL k ⟨x0, x1, x2, x3, x4, x5⟩) ∨ (x1 ≤ at_ ∧ dn = cutL k ⟨x0, x1, x2, x3, x4, x5⟩)) ∧ Hid (RowP w2 (O + 1) v m2 (splitL k (os.take j) ++ dn)) ∧ Hid ((splitL k (os.take j) ++ dn).length = m2) ∧ Hid (∀ b, v.ownBlock = some b → b ≠ PB) ∧ Hid (HoldV w2 w.heap.size #[.int .i64 u, .int .i64 x, .slice (some ⟨b, off, none⟩) n cap] 29) ∧ Hid (HoldV w2 (w.heap.size + 1) #[.int .i64 0, .int .i64 0, .slice none 0 0] 29) ∧ Hid (HoldV w2 O #[.int .i64 u, .int .i64 x, v] 29) ∧ Hid (HoldV w2 PB #[.int .i64 x0, .int .i64 x1, .int .i64 x2, .int .i64 x3, .bool x4, .bool x5] 45) ∧ Hid (Below w.heap.size w w2)) (fun t _ => (x1 - intOf t).toNat)
          case atStart => exact ⟨x0, [], .slice bz m nz, m, rfl, Int.le_refl _, by omega, hide (.inl ⟨q1, rfl⟩), hide (by rw [List.append_nil]; exact HV2.out), hide (by rw [List.append_nil]; exact HM.out), HOB, HX2', HR2', HO2', HPB, HB2'⟩
          case round =>
            rename World => wi
            obtain ⟨at_, dn, v, m2, rfl, ha0, ha1, HC, HV, HM2, HOB, HX, HR, HO, HPB, HB⟩ := hrel
            obtain ⟨bq, nq2, rfl⟩ := HV.out.form
            have r0 := HPB.out.cell 0 _ rfl; have r1 := HPB.out.cell 1 _ rfl; have r2 := HPB.out.cell 2 _ rfl; have r3 := HPB.out.cell 3 _ rfl; have r4 := HPB.out.cell 4 _ rfl; have r5 := HPB.out.cell 5 _ rfl
            have o2 := HO.out.cell 2 _ rfl
            by_cases hin2 : at_ < x1
            · have hcut : dn ++ cutL k (⟨at_, x1, x2, x3, x4, x5⟩ : PieceM) = cutL k ⟨x0, x1, x2, x3, x4, x5⟩ := by
                rcases HC.out with h | h
                · exact h.2
                · exact absurd hin2 (Int.not_lt.2 h.1)
              obtain ⟨tt, htt⟩ : ∃ tt, tt = min (at_ + k) x1 := ⟨_, rfl⟩
              have HTT := hide htt
              have HCN : Hid ((at_ + k < x1 ∧ (dn ++ [(⟨at_, tt, x2, x3, x4, x5⟩ : PieceM)]) ++ cutL k ⟨at_ + k, x1, x2, x3, x4, x5⟩ = cutL k ⟨x0, x1, x2, x3, x4, x5⟩) ∨ (x1 ≤ at_ + k ∧ dn ++ [(⟨at_, tt, x2, x3, x4, x5⟩ : PieceM)] = cutL k ⟨x0, x1, x2, x3, x4, x5⟩)) := hide (by
                by_cases hb : k < x1 - at_
                · left
                  refine ⟨by omega, ?_⟩
                  have hbig : cutL k (⟨at_, x1, x2, x3, x4, x5⟩ : PieceM) = ⟨at_, at_ + k, x2, x3, x4, x5⟩ :: cutL k ⟨at_ + k, x1, x2, x3, x4, x5⟩ := cut_big kk1 hb
                  rw [← hcut, hbig, show tt = at_ + k by omega, List.append_assoc]
                  rfl
                · right
                  refine ⟨by omega, ?_⟩
                  have hsm : cutL k (⟨at_, x1, x2, x3, x4, x5⟩ : PieceM) = [⟨at_, x1, x2, x3, x4, x5⟩] := cut_small hb
                  rw [← hcut, hsm, show tt = x1 by omega])
              have hm4 : m2 + 1 ≤ 4096 := by
                have h1 := HTL.out
                rw [HT.out, ← hcut] at h1
                have h2 := cutL_ne k (⟨at_, x1, x2, x3, x4, x5⟩ : PieceM)
                have h3 := HM2.out
                simp only [List.length_append] at h1 h3
                omega
              clear hcut HC htt
              have hal := (Below.refl wi.heap.size wi).alloc (Nat.le_refl _) (.cells #[.int .i64 at_, .int .i64 tt, .int .i64 x2, .int .i64 x3, .bool x4, .bool x5] 45)
              have HQB : Hid (HoldV (wi.alloc (.cells #[.int .i64 at_, .int .i64 tt, .int .i64 x2, .int .i64 x3, .bool x4, .bool x5] 45)) wi.heap.size _ 45) := hide (hv_new wi #[.int .i64 at_, .int .i64 tt, .int .i64 x2, .int .i64 x3, .bool x4, .bool x5] 45)
              have hOi : O < wi.heap.size := HO.out.lt
              have hPi : PB < wi.heap.size := HPB.out.lt
              have HV3 := hide (HV.out.next hal); have HX3' := hide (HX.out.next hal); have HR3' := hide (HR.out.next hal); have HO3' := hide (HO.out.next hal); have HP3' := hide (HPB.out.next hal); have HB3' := hide (HB.out.trans (hal.mono HB.out.size))
              clear hal HV HX HR HO HPB HB o2
              go_upto_region 21 with (go_at_call 42; refine (l14Min_walk _ _ _).mono ?_; rintro e w9 ⟨rfl, hq⟩; rw [hq, ← HTT.out]; clear hq)
              generalize wi.alloc (.cells #[.int .i64 at_, .int .i64 tt, .int .i64 x2, .int .i64 x3, .bool x4, .bool x5] 45) = wj at *
              obtain ⟨QB, hQB⟩ : ∃ QB, QB = wi.heap.size := ⟨_, rfl⟩
              rw [← hQB] at HQB hOi hPi ⊢
              clear hQB r0 r1 r2 r3 r4 r5
              have q0' := HQB.out.cell 0 (.int .i64 at_) rfl; have q1' := HQB.out.cell 1 (.int .i64 tt) rfl; have q2' := HQB.out.cell 2 (.int .i64 x2) rfl; have q3' := HQB.out.cell 3 (.int .i64 x3) rfl; have q4' := HQB.out.cell 4 (.bool x4) rfl; have q5' := HQB.out.cell 5 (.bool x5) rfl
              have o2 := HO3'.out.cell 2 _ rfl; have of := HO3'.out.frozen
              have hOj : O < wj.heap.size := HO3'.out.lt
              have hal := (Below.refl wj.heap.size wj).alloc (Nat.le_refl _) (.cells #[.int .i64 at_, .int .i64 tt, .int .i64 x2, .int .i64 x3, .bool x4, .bool x5] 45)
              have HPL : Hid (HoldV (wj.alloc (.cells #[.int .i64 at_, .int .i64 tt, .int .i64 x2, .int .i64 x3, .bool x4, .bool x5] 45)) wj.heap.size _ 45) := hide (hv_new wj #[.int .i64 at_, .int .i64 tt, .int .i64 x2, .int .i64 x3, .bool x4, .bool x5] 45)
              have HV4 := hide (HV3.out.next hal); have HX4' := hide (HX3'.out.next hal); have HR4' := hide (HR3'.out.next hal); have HO4' := hide (HO3'.out.next hal); have HP4' := hide (HP3'.out.next hal); have HB4' := hide (HB3'.out.trans (hal.mono HB3'.out.size))
              have o2' := HO4'.out.cell 2 _ rfl; have of' := HO4'.out.frozen
              have hsa : (wj.alloc (.cells #[.int .i64 at_, .int .i64 tt, .int .i64 x2, .int .i64 x3, .bool x4, .bool x5] 45)).heap.size = wj.heap.size + 1 := World.size_alloc _ _
              have hPj : PB < wj.heap.size := HP3'.out.lt
              clear hal HV3 HX3' HR3' HO3' HP3' HB3'
              go_wp2_with (at_builtin; refine wpList_append_lies _ rfl _ _ 27 rfl (O + 1) 45 ip _ 6 40 Try.underlying27 HI.out HI0.out HI1.out HI2.out rfl (by decide) (.slice bq m2 nq2) m2 ((splitL k (os.take j) ++ dn).flatMap valPiece) rfl HV4.out ⟨wj.heap.size, 0, none⟩ 1 1 (valPiece ⟨at_, tt, x2, x3, x4, x5⟩) rfl rfl (pc_cells HPL.out) (val_one1 _) (by omega) (by unfold maxLen; omega) (by omega) (by omega) _ rfl ?_)
              intro gt nt w3 hown' hgrow hlies _
              have HO5 : Hid (RowP w3 (O + 1) (.slice (some ⟨gt, 0, none⟩) (m2 + 1) nt) (m2 + 1) (splitL k (os.take j) ++ (dn ++ [(⟨at_, tt, x2, x3, x4, x5⟩ : PieceM)]))) := hide (by unfold RowP; rw [← List.append_assoc, List.flatMap_append]; simpa using hown')
              have HGT : Hid (gt ≠ PB) := hide (by
                rcases hlies with h | h
                · exact HOB.out gt h
                · omega)
              have hkeep : ∀ b, (b ≤ O ∨ b = PB) → b < wj.heap.size → w3.heap[b]? = (wj.alloc (.cells #[.int .i64 at_, .int .i64 tt, .int .i64 x2, .int .i64 x3, .bool x4, .bool x5] 45)).heap[b]? := fun b hb hlt => hgrow.block b (by omega) (fun e => by
                rcases hb with hb | hb
                · have h1 := ownsAt.lt (ownsAt.of_row HV4.out) b e.symm
                  omega
                · exact HOB.out b e.symm hb)
              have HX5 : Hid (HoldV w3 w.heap.size _ 29) := hide ((hkeep _ (by omega) (by omega)).trans HX4'.out)
              have HR5 : Hid (HoldV w3 (w.heap.size + 1) _ 29) := hide ((hkeep _ (by omega) (by omega)).trans HR4'.out)
              have HOO5 : Hid (HoldV w3 O _ 29) := hide ((hkeep _ (by omega) (by omega)).trans HO4'.out)
              have HP5 : Hid (HoldV w3 PB _ 45) := hide ((hkeep _ (by omega) (by omega)).trans HP4'.out)
              have HB5 : Hid (Below w.heap.size w w3) := hide (HB4'.out.trans ⟨hgrow.os, hgrow.tape, hgrow.output, hgrow.size, fun b hb => hkeep b (by omega) (by omega)⟩)
              have HM5 : Hid ((splitL k (os.take j) ++ (dn ++ [(⟨at_, tt, x2, x3, x4, x5⟩ : PieceM)])).length = m2 + 1) := hide (by rw [← List.append_assoc, List.length_append, HM2.out]; rfl)
              have hg6 : w3.grownBy (w3.setCell ⟨O, 2, none⟩ (.slice (some ⟨gt, 0, none⟩) (m2 + 1) nt)) (some O) := gr_set (grown_reflp _ _) 2 _
              have HX6 := hide (hv_gr HX5.out hg6 (by omega)); have HR6 := hide (hv_gr HR5.out hg6 (by omega)); have HP6 := hide (hv_gr HP5.out hg6 (by omega))
              have HO6 := hide (hv_set HOO5.out 2 (.slice (some ⟨gt, 0, none⟩) (m2 + 1) nt))
              have HV6 := hide (row_gr HO5.out hg6 (by omega))
              have HB6 := hide (below_gr HB5.out hg6 HB5.out.size (by omega))
              have o3 := HOO5.out.cell 2 _ rfl; have o3f := HOO5.out.frozen
              have HOB6 : Hid (∀ b, (Value.slice (some ⟨gt, 0, none⟩) (m2 + 1) nt).ownBlock = some b → b ≠ PB) := hide (fun b hb => by cases hb; exact HGT.out)
              clear hkeep hgrow hown' hlies hg6 HO5 HX5 HR5 HOO5 HP5 HB5 HV4 HX4' HR4' HO4' HP4' HB4' HPL hsa o2 o2' of of' q0' q1' q2' q3' q4' q5' HQB
              go_wp2_with fail
              exact ⟨⟨at_ + k, _, _, m2 + 1, rfl, by omega, by omega, HCN, HV6, HM5, HOB6, HX6, HR6, HO6, HP6, HB6⟩, by simp [intOf]; omega⟩
            · have hdn : dn = cutL k (⟨x0, x1, x2, x3, x4, x5⟩ : PieceM) := by
                rcases HC.out with h | h
                · exact absurd h.1 hin2
                · exact h.2
              go_wp2_with fail
              exact ⟨⟨j + 1, m2, _, by omega, by go_num, hide (by rw [HT.out, ← hdn]; exact HV.out), hide (by rw [HT.out, ← hdn]; exact HM2.out), HX, HR, HO, HB⟩, by simp [intOf]; omega⟩
        · have hjn : j = n := by omega
          have HFL : Hid (RowP wk (O + 1) (.slice bz m nz) m (splitL k os)) := hide (by have h := HV.out; rw [List.take_of_length_le (by rw [HN.out, hjn]; exact Nat.le_refl _)] at h; exact h)
          have HFM : Hid ((splitL k os).length = m) := hide (by have h := HM.out; rw [List.take_of_length_le (by rw [HN.out, hjn]; exact Nat.le_refl _)] at h; exact h)
          have o0 := HO.out.cell 0 _ rfl; have o1 := HO.out.cell 1 _ rfl; have o2 := HO.out.cell 2 _ rfl
          have r0 := HR.out.cell 0 _ rfl; have r1 := HR.out.cell 1 _ rfl; have r2 := HR.out.cell 2 _ rfl; have rf := HR.out.frozen
          have hOw : w.heap.size + 1 < O + 1 := by omega
          clear HV HM HX HR HO
          go_wp2_with fail
          exact bodyPost_ret (v := .tuple #[.agg #[.int .i64 u, .int .i64 x, .slice bz m nz], .int .i64 0]) (by simp [results, Try.results22, go_sem, r0, r1, r2]) rfl ⟨_, rfl, ownP_mono (row_own (row_gr HFL.out (gr_set (gr_set (gr_set (grown_reflp _ _) 0 _) 1 _) 2 _) (by omega)) HFM.out) (by omega), below_gr HB.out (gr_set (gr_set (gr_set (grown_reflp _ _) 0 _) 1 _) 2 _) HB.out.size (Nat.le_succ _)⟩
end Go.Proofs.Ytddkcgngpclgfaa
