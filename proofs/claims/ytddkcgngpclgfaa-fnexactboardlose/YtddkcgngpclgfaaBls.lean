/-
Contracts of functions of this seat.
-/
import Derived.Test.YtddkcgngpclgfaaRows
import Derived.WalkKit
import Derived.ProofKit
import Derived.OpenShut
import Derived.Test.YtddkcgngpclgfaaBlo
namespace Go.Proofs.Ytddkcgngpclgfaa
open Go.ChangeShapes Go.WideShapes Go.ChangeAt Go.RowKit
set_option linter.unusedVariables false
set_option maxRecDepth 100000
theorem row_arr {W : World} {BB n c : Nat} {a : Option Addr} {os : List PieceM} (h : RowP W BB (.slice a n c) n os) (hn : os.length = n) : ArrP W a (os.flatMap valPiece) := by
  obtain ⟨a', c', e, ha, _⟩ := arrP_own (row_own h hn)
  injection e with e1 e2 e3
  rw [e1]
  exact ha
theorem lose_drop_le : ∀ (os : List PieceM) (u m : Int), chk u os = some m → ∀ i, loseN (os.drop i) ≤ loseN os
  | [], _, _, _, i => by simp
  | o :: os, u, m, h, 0 => Int.le_refl _
  | o :: os, u, m, h, i + 1 => by
    by_cases hh : o.f0 = u ∧ vp o
    · rw [chk_cons hh.1 hh.2] at h
      have h1 := lose_drop_le os _ _ h i
      have h2 := hh.2.1
      show loseN (os.drop i) ≤ (if mustL o os then o.f1 - o.f0 else 0) + loseN os
      split <;> omega
    · rw [chk_ill hh] at h; cases h
/-- The first i pieces as they must be lost, the others as they were. -/
def lsL (os : List PieceM) (i : Nat) : List PieceM := (loseL os).take i ++ os.drop i
theorem lsL_zero (os : List PieceM) : lsL os 0 = os := by unfold lsL; simp
theorem lsL_len (os : List PieceM) (i : Nat) (h : i ≤ os.length) : (lsL os i).length = os.length := by unfold lsL; rw [List.length_append, List.length_take, opLose_len, List.length_drop]; omega
theorem lsL_all (os : List PieceM) (i : Nat) (h : os.length ≤ i) : lsL os i = loseL os := by unfold lsL; rw [List.take_of_length_le (by rw [opLose_len]; exact h), List.drop_eq_nil_of_le h, List.append_nil]
theorem lsL_tl (os : List PieceM) (i : Nat) (h : i < os.length) : ((loseL os).take i).length = i := by rw [List.length_take, opLose_len]; omega
theorem lsL_get (os : List PieceM) (i : Nat) (h : i < os.length) (h2 : i < (lsL os i).length) : (lsL os i)[i] = os[i] := by
  have e : (lsL os i)[i]? = os[i]? := by
    unfold lsL
    have hl := lsL_tl os i h
    rw [List.getElem?_append_right (by rw [hl]; exact Nat.le_refl _), hl, Nat.sub_self, List.getElem?_drop]
    rfl
  rw [List.getElem?_eq_getElem h2, List.getElem?_eq_getElem h] at e
  exact Option.some.inj e
theorem lsL_drop (os : List PieceM) (i : Nat) (h : i < os.length) : (lsL os i).drop (i + 1) = os.drop (i + 1) := by
  unfold lsL
  have hl := lsL_tl os i h
  rw [List.drop_append, hl, List.drop_eq_nil_of_le (by rw [hl]; omega), List.nil_append, List.drop_drop]
  congr 1; omega
theorem loseL_get : ∀ (os : List PieceM) (i : Nat) (h : i < os.length), (loseL os)[i]? = some (if mustL os[i] (os.drop (i + 1)) then lostP os[i] else os[i])
  | o :: os, 0, _ => rfl
  | o :: os, i + 1, h => loseL_get os i (by simpa using h)
theorem lsL_next (os : List PieceM) (i : Nat) (h : i < os.length) : (if mustL os[i] (os.drop (i + 1)) then (lsL os i).set i (lostP os[i]) else lsL os i) = lsL os (i + 1) := by
  have hl := lsL_tl os i h
  have hg := loseL_get os i h
  have hlt : i < (loseL os).length := by rw [opLose_len]; exact h
  have e1 : lsL os (i + 1) = (loseL os).take i ++ (if mustL os[i] (os.drop (i + 1)) then lostP os[i] else os[i]) :: os.drop (i + 1) := by
    unfold lsL
    rw [List.take_succ_eq_append_getElem hlt, List.append_assoc]
    rw [List.getElem?_eq_getElem hlt] at hg
    rw [Option.some.inj hg]
    rfl
  rw [e1]
  by_cases hm : mustL os[i] (os.drop (i + 1))
  · rw [if_pos hm, if_pos hm]
    unfold lsL
    rw [List.set_append_right _ _ (by rw [hl]; exact Nat.le_refl _), hl, Nat.sub_self, List.drop_eq_getElem_cons h]
    rfl
  · rw [if_neg hm, if_neg hm]
    unfold lsL
    rw [List.drop_eq_getElem_cons h]
set_option maxHeartbeats 4000000 in
theorem l15Behind_walk (u x : Int) (a : Option Addr) (n c : Nat) (os : List PieceM) (i : Nat) (w : World) (hn : os.length = n) (ha : ArrP w a (os.flatMap valPiece)) (hm : n ≤ 1048576) (hi : i < n) :
    Calls Try.prog 44 #[.agg #[.int .i64 u, .int .i64 x, .slice a n c], .int .i64 (i : Int)] w fun e w' => e = .returned (.int .i64 ((sackN (os.drop (i + 1)) : Nat) : Int)) ∧ Below w.heap.size w w' := by
  have HB0 := hide (BoxV.start w #[.int .i64 u, .int .i64 x, .slice a n c] 29)
  have HN := hide hn; have HA := hide ha
  have hi1 : (i : Int) + 1 = ((i + 1 : Nat) : Int) := by omega
  have HI1 := hide hi1
  clear hn ha hi1
  go_enter Try.func44, Try.ntmps44
  go_wp2_with fail
  go_loopw [5, 6] (fun s t w2 => ∃ k d : Nat, i + 1 ≤ k ∧ k ≤ n ∧ t = .int .i64 (k : Int) ∧ s = .int .i64 (d : Int) ∧ Hid (d + sackN (os.drop k) = sackN (os.drop (i + 1))) ∧ d ≤ k ∧ Hid (BoxV w w2 #[.int .i64 u, .int .i64 x, .slice a n c] 29)) (fun _ t _ => n - (intOf t).toNat)
  case atStart => exact ⟨i + 1, 0, Nat.le_refl _, by omega, by rw [HI1.out], rfl, hide (by rw [Nat.zero_add]), by omega, HB0⟩
  case round =>
    obtain ⟨k, d, hk1, hk2, rfl, rfl, HD, hd, HB⟩ := hrel
    have b2 := HB.out.cell 2 _ rfl
    by_cases hlt : k < n
    · have hko : k < os.length := by rw [HN.out]; exact hlt
      obtain ⟨b, off, rfl, hbs, _, _, _, _, c4, _⟩ := piece_cells (HA.out.below HB.out.1 (Nat.le_refl _)) hko
      have HS : Hid (sackN (os.drop k) = (if os[k].f4 = true then 1 else 0) + sackN (os.drop (k + 1))) := hide (by rw [List.drop_eq_getElem_cons hko]; rfl)
      generalize os[k].f4 = x4 at *
      cases x4 with
      | true =>
        have HD2 : Hid (d + 1 + sackN (os.drop (k + 1)) = sackN (os.drop (i + 1))) := hide (by rw [← HD.out, HS.out]; simp; omega)
        go_wp2_with fail
        exact ⟨⟨k + 1, d + 1, by omega, by omega, by go_num, by go_num, HD2, by omega, HB⟩, by simp [intOf]; omega⟩
      | false =>
        have HD2 : Hid (d + sackN (os.drop (k + 1)) = sackN (os.drop (i + 1))) := hide (by rw [← HD.out, HS.out]; simp)
        go_wp2_with fail
        exact ⟨⟨k + 1, d, by omega, by omega, by go_num, rfl, HD2, by omega, HB⟩, by simp [intOf]; omega⟩
    · have hkn : k = n := by omega
      have HE : Hid ((d : Int) = ((sackN (os.drop (i + 1)) : Nat) : Int)) := hide (by rw [← HD.out, List.drop_eq_nil_of_le (by rw [HN.out, hkn]; exact Nat.le_refl _)]; rfl)
      go_wp2_with fail
      go_ret
      exact ⟨ret_int HE.out, HB.out.1⟩

set_option maxHeartbeats 16000000 in
theorem specLose_yes {u x : Int} {os : List PieceM} (hok : bOK u x os) : BoardLoseP 24 (fun _ => True) u x os u x (loseL os) (loseN os) 0 := by
  intro a n cap w hn ha hc hm _
  obtain ⟨hb2, hX, hR⟩ := two_boxes w #[.int .i64 u, .int .i64 x, .slice a n cap] #[.int .i64 0, .int .i64 0, .slice none 0 0] 29 29
  have HB2 := hide hb2; have HX := hide hX; have HR := hide hR
  have k0 := hX.cell 0 _ rfl; have k1 := hX.cell 1 _ rfl; have k2 := hX.cell 2 _ rfl
  have CV := hide (l15OK_walk u x a n cap os ((w.alloc (.cells #[.int .i64 u, .int .i64 x, .slice a n cap] 29)).alloc (.cells #[.int .i64 0, .int .i64 0, .slice none 0 0] 29)) hn (ha.below hb2 (Nat.le_refl _)) hm)
  rw [bokB_yes hok] at CV
  have HN := hide hn
  have HOK := hide hok
  obtain ⟨fl, hfl⟩ : ∃ fl, fl = loseL os := ⟨_, rfl⟩
  obtain ⟨fn, hfn⟩ : ∃ fn, fn = loseN os := ⟨_, rfl⟩
  rw [← hfl, ← hfn]
  have HFL := hide hfl; have HFN := hide hfn
  clear hfl hfn
  have HA := hide (ha.below hb2 (Nat.le_refl _))
  have hV : w.heap.size + 1 < ((w.alloc (.cells #[.int .i64 u, .int .i64 x, .slice a n cap] 29)).alloc (.cells #[.int .i64 0, .int .i64 0, .slice none 0 0] 29)).heap.size := hR.lt
  clear hn ha hok hb2 hX hR
  go_enter Try.func24, Try.ntmps24
  go_wp2_with fail
  generalize (w.alloc (.cells #[.int .i64 u, .int .i64 x, .slice a n cap] 29)).alloc (.cells #[.int .i64 0, .int .i64 0, .slice none 0 0] 29) = V at *
  refine CV.out.mono ?_
  rintro e w1 ⟨rfl, hw1⟩
  have CC := hide (l15Copy_walk u x a n cap os w1 HN.out (HA.out.below hw1 (Nat.le_refl _)) hm)
  have HR1 := hide (HR.out.next hw1)
  have HX1 := hide (HX.out.next hw1)
  have HB1 : Hid (Below w.heap.size w w1) := hide (HB2.out.trans (hw1.mono HB2.out.size))
  have hV1 := hw1.size
  clear hw1 CV k0 k1 k2 HB2 HX HR
  have k0 := HX1.out.cell 0 _ rfl; have k1 := HX1.out.cell 1 _ rfl; have k2 := HX1.out.cell 2 _ rfl
  go_wp2_with fail
  refine CC.out.mono ?_
  rintro e w2 ⟨v, rfl, hO, hw2⟩
  obtain ⟨bz, nz, rfl⟩ := hO.form
  have HR2 := hide (HR1.out.next hw2)
  have HX2 := hide (HX1.out.next hw2)
  have HB3 : Hid (Below w.heap.size w w2) := hide (HB1.out.trans (hw2.mono HB1.out.size))
  have HO := hide hO
  have hBB : w.heap.size + 2 ≤ w1.heap.size + 2 := by omega
  clear hO hw2 CC HB1 HR1 HX1 k0 k1 k2
  have k0 := HX2.out.cell 0 _ rfl; have k1 := HX2.out.cell 1 _ rfl; have k2 := HX2.out.cell 2 _ rfl; have kf := HX2.out.frozen
  go_upto_region 4 with fail
  have HX3 := hide (hv_set (hv_set (hv_set HX2.out 0 (.int .i64 u)) 1 (.int .i64 x)) 2 (.slice bz n nz))
  have HR3 := hide (hv_other (hv_other (hv_other HR2.out (C := w.heap.size) (by omega) 0 (.int .i64 u)) (C := w.heap.size) (by omega) 1 (.int .i64 x)) (C := w.heap.size) (by omega) 2 (.slice bz n nz))
  have hg3 : w2.grownBy (((w2.setCell ⟨w.heap.size, 0, none⟩ (.int .i64 u)).setCell ⟨w.heap.size, 1, none⟩ (.int .i64 x)).setCell ⟨w.heap.size, 2, none⟩ (.slice bz n nz)) (some w.heap.size) := gr_set (gr_set (gr_set (grown_reflp _ _) 0 _) 1 _) 2 _
  have HO3 := hide (row_gr HO.out hg3 (by omega))
  have HB4 := hide (below_gr HB3.out hg3 HB3.out.size (Nat.le_refl _))
  clear k0 k1 k2 kf HX2 HR2 HO HB3 hg3
  generalize ((w2.setCell ⟨w.heap.size, 0, none⟩ (.int .i64 u)).setCell ⟨w.heap.size, 1, none⟩ (.int .i64 x)).setCell ⟨w.heap.size, 2, none⟩ (.slice bz n nz) = W at *
  have hBB2 : w.heap.size + 2 ≤ w1.heap.size + 2 := hBB
  generalize w1.heap.size + 2 = BB at *
  go_wp2_with fail
  go_loopw [5, 6] (fun s t w2 => ∃ i : Nat, i ≤ n ∧ t = .int .i64 i ∧ s = .int .i64 (loseN os - loseN (os.drop i)) ∧ Hid (RowP w2 BB (.slice bz n nz) n (lsL os i)) ∧ Hid (HoldV w2 w.heap.size #[.int .i64 u, .int .i64 x, .slice bz n nz] 29) ∧ Hid (HoldV w2 (w.heap.size + 1) #[.int .i64 0, .int .i64 0, .slice none 0 0] 29) ∧ Hid (Below w.heap.size w w2)) (fun _ t _ => n - (intOf t).toNat)
  case atStart => exact ⟨0, Nat.zero_le _, rfl, by rw [List.drop_zero, Int.sub_self], hide (by rw [lsL_zero]; exact HO3.out), HX3, HR3, HB4⟩
  case round =>
    obtain ⟨i, hi, rfl, rfl, HO, HX, HR, HB⟩ := hrel
    have k0 := HX.out.cell 0 _ rfl; have k1 := HX.out.cell 1 _ rfl; have k2 := HX.out.cell 2 _ rfl
    by_cases hlt : i < n
    · have hio : i < os.length := by rw [HN.out]; exact hlt
      obtain ⟨g, cp, e, hgB, hgl⟩ := HO.out.some (by omega)
      injection e with e1 e2 e3
      subst e1 e3
      have hl : i < (lsL os i).length := by rw [lsL_len _ _ (by omega)]; exact hio
      have hget := lsL_get os i hio hl
      have hcl : (lsL os i).length = n := by rw [lsL_len _ _ (by omega)]; exact HN.out
      have HBH := hide (show lsL os i = (loseL os).take i ++ os.drop i from rfl)
      have HSK : Hid (sackN ((lsL os i).drop (i + 1)) = sackN (os.drop (i + 1))) := hide (by rw [lsL_drop os i hio])
      have HDR : Hid (loseN (os.drop i) = (if mustL os[i] (os.drop (i + 1)) then os[i].f1 - os[i].f0 else 0) + loseN (os.drop (i + 1))) := hide (by rw [List.drop_eq_getElem_cons hio]; rfl)
      have HLI : Hid (mustL os[i] (os.drop (i + 1)) ↔ os[i].f3 = 1 ∧ os[i].f4 = false ∧ os[i].f5 = false ∧ 3 ≤ sackN (os.drop (i + 1))) := hide Iff.rfl
      have HNX : Hid ((if mustL os[i] (os.drop (i + 1)) then (lsL os i).set i (lostP os[i]) else lsL os i) = lsL os (i + 1)) := hide (lsL_next os i hio)
      obtain ⟨q0, q1, q2⟩ : 0 ≤ os[i].f0 ∧ os[i].f0 < os[i].f1 ∧ os[i].f1 ≤ 1099511627776 := bOK_piece HOK.out (List.getElem_mem hio)
      obtain ⟨t0, t1⟩ : 0 ≤ loseN (os.drop i) ∧ loseN (os.drop i) ≤ 1099511627776 := bOK_tail (a := os.take i) (by rw [List.take_append_drop]; exact HOK.out)
      obtain ⟨s0, s1⟩ : 0 ≤ loseN os ∧ loseN os ≤ 1099511627776 := bOK_tail (a := []) HOK.out
      have hdiff : loseN (os.drop i) ≤ loseN os := lose_drop_le _ _ _ HOK.out.2.2.2 i
      obtain ⟨p0, p1⟩ : 0 ≤ loseN (os.drop (i + 1)) ∧ loseN (os.drop (i + 1)) ≤ 1099511627776 := bOK_tail (a := os.take (i + 1)) (by rw [List.take_append_drop]; exact HOK.out)
      have hsk : sackN (os.drop (i + 1)) ≤ 4096 := by have h1 := sackN_le (os.drop (i + 1)); have h2 := HOK.out.2.2.1; rw [List.length_drop] at h1; omega
      have c0 := HO.out.at hcl hl (j := 0) (by omega); have c1 := HO.out.at hcl hl (j := 1) (by omega); have c2 := HO.out.at hcl hl (j := 2) (by omega); have c3 := HO.out.at hcl hl (j := 3) (by omega); have c4 := HO.out.at hcl hl (j := 4) (by omega); have c5 := HO.out.at hcl hl (j := 5) (by omega)
      rw [hget] at c0 c1 c2 c3 c4 c5
      have HPUT : Hid (∀ W, Below wr.heap.size wr W → RowP (W.setCell ⟨g, i * 6 + 5, none⟩ (.bool true)) BB (.slice (some ⟨g, 0, none⟩) n nz) n ((lsL os i).set i (⟨os[i].f0, os[i].f1, os[i].f2, os[i].f3, os[i].f4, true⟩ : PieceM))) := hide (fun W hW => (HO.out.next hW).put hl (j := 5) (by omega) (.bool true) _ (by rw [hget]; rfl))
      generalize os[i] = o at *
      obtain ⟨x0, x1, x2, x3, x4, x5⟩ := o
      have d0 : wr.cell? ⟨g, i * 6, none⟩ = some (.int .i64 x0) := c0
      have d1 : wr.cell? ⟨g, i * 6 + 1, none⟩ = some (.int .i64 x1) := c1
      have d2 : wr.cell? ⟨g, i * 6 + 2, none⟩ = some (.int .i64 x2) := c2
      have d3 : wr.cell? ⟨g, i * 6 + 3, none⟩ = some (.int .i64 x3) := c3
      have d4 : wr.cell? ⟨g, i * 6 + 4, none⟩ = some (.bool x4) := c4
      have d5 : wr.cell? ⟨g, i * 6 + 5, none⟩ = some (.bool x5) := c5
      try dsimp only at q0 q1 q2
      clear c0 c1 c2 c3 c4 c5
      have hal := (Below.refl wr.heap.size wr).alloc (Nat.le_refl _) (.cells #[.int .i64 x0, .int .i64 x1, .int .i64 x2, .int .i64 x3, .bool x4, .bool x5] 45)
      have HPB : Hid (HoldV (wr.alloc (.cells #[.int .i64 x0, .int .i64 x1, .int .i64 x2, .int .i64 x3, .bool x4, .bool x5] 45)) wr.heap.size _ 45) := hide (hv_new _ _ _)
      have r0 := HPB.out.cell 0 _ rfl; have r1 := HPB.out.cell 1 _ rfl; have r2 := HPB.out.cell 2 _ rfl; have r3 := HPB.out.cell 3 _ rfl; have r4 := HPB.out.cell 4 _ rfl; have r5 := HPB.out.cell 5 _ rfl
      have CBH := hide (l15Behind_walk u x (some ⟨g, 0, none⟩) n nz (lsL os i) i (wr.alloc (.cells #[.int .i64 x0, .int .i64 x1, .int .i64 x2, .int .i64 x3, .bool x4, .bool x5] 45)) hcl (row_arr (HO.out.next hal) hcl) (by omega) hlt)
      rw [HSK.out] at CBH
      have HAL := hide hal
      have hX1 := HX.out.lt
      have hneg : w.heap.size ≠ g := by omega
      have k0' := (HX.out.next hal).cell 0 _ rfl; have k1' := (HX.out.next hal).cell 1 _ rfl; have k2' := (HX.out.next hal).cell 2 _ rfl
      have HNO : Hid (∀ W, Below wr.heap.size wr W → RowP W BB (.slice (some ⟨g, 0, none⟩) n nz) n (lsL os i) ∧ HoldV W w.heap.size #[.int .i64 u, .int .i64 x, .slice (some ⟨g, 0, none⟩) n nz] 29 ∧ HoldV W (w.heap.size + 1) #[.int .i64 0, .int .i64 0, .slice none 0 0] 29 ∧ Below w.heap.size w W) := hide (fun W hW => ⟨HO.out.next hW, HX.out.next hW, HR.out.next hW, HB.out.trans (hW.mono HB.out.size)⟩)
      clear hal HO HX HR HB hcl hget hl HBH
      generalize loseN os = S0 at *
      generalize loseN (os.drop i) = T0 at *
      generalize hT1 : loseN (os.drop (i + 1)) = T1 at *
      generalize sackN (os.drop (i + 1)) = kk at *
      by_cases hm : mustL (⟨x0, x1, x2, x3, x4, x5⟩ : PieceM) (os.drop (i + 1))
      · obtain ⟨m1, m2, m3, m4⟩ := HLI.out.1 hm
        have hm1 : x3 = 1 := m1
        have hm2 : x4 = false := m2
        have hm3 : x5 = false := m3
        subst hm1 hm2 hm3
        have hT : T0 = x1 - x0 + T1 := by have := HDR.out; rw [if_pos hm] at this; exact this
        have HLN : Hid ((lsL os i).set i (⟨x0, x1, x2, 1, false, true⟩ : PieceM) = lsL os (i + 1)) := hide (by have := HNX.out; rw [if_pos hm] at this; exact this)
        have HSV : Hid (S0 - T0 + x1 - x0 = S0 - T1) := hide (by omega)
        have m4' : (3 : Int) ≤ (kk : Int) := by omega
        clear hm m1 m2 m3 m4 HLI HDR HNX
        go_upto_region 10 with (go_at_call 44; refine CBH.out.mono ?_; rintro e w3 ⟨rfl, hw3⟩)
        have hbw := HAL.out.trans (hw3.mono HAL.out.size)
        have hno := HNO.out w3 hbw
        have k2w := hno.2.1.cell 2 _ rfl
        have d5w : w3.cell? ⟨g, i * 6 + 5, none⟩ = some (.bool false) := by rw [hbw.cell (p := ⟨g, i * 6 + 5, none⟩) (by exact lt_cell d5)]; exact d5
        have cfw := row_frozen hno.1
        have HRO := hide (HPUT.out w3 hbw)
        have HX3' := hide (hv_other hno.2.1 (C := g) (by omega) (i * 6 + 5) (.bool true))
        have HR3' := hide (hv_other hno.2.2.1 (C := g) (by omega) (i * 6 + 5) (.bool true))
        have HB3' := hide (hno.2.2.2.setCell (p := ⟨g, i * 6 + 5, none⟩) (by show w.heap.size ≤ g; omega) (.bool true))
        have HPZ := hide (hv_other (HPB.out.next hw3) (C := g) (by have := HAL.out.size; have := lt_cell d5; omega) (i * 6 + 5) (.bool true))
        clear hno hbw hw3 HPB r0 r1 r2 r3 r4 r5 k0 k1 k2 k0' k1' k2' d0 d1 d2 d3 d4 d5 CBH HNO HPUT HAL
        have z0 := HPZ.out.cell 0 _ rfl; have z1 := HPZ.out.cell 1 _ rfl
        go_upto_region 11 with fail
        clear k2w d5w cfw
        generalize w3.setCell ⟨g, i * 6 + 5, none⟩ (.bool true) = w4 at *
        go_wp2_with fail
        exact ⟨⟨i + 1, by omega, by go_num, by rw [hT1]; exact congrArg (Value.int .i64) (by omega), hide (by rw [← HLN.out]; exact HRO.out), HX3', HR3', HB3'⟩, by simp [intOf]; omega⟩
      · have hT : T0 = T1 := by have := HDR.out; rw [if_neg hm] at this; omega
        have HLN : Hid (lsL os i = lsL os (i + 1)) := hide (by have := HNX.out; rw [if_neg hm] at this; exact this)
        have hm' : ¬ (x3 = 1 ∧ x4 = false ∧ x5 = false ∧ 3 ≤ kk) := fun h => hm (HLI.out.2 h)
        subst hT
        clear hm HLI HDR HNX HPUT
        have HFI : Hid (∀ W, Below wr.heap.size wr W → (RowP W BB (.slice (some ⟨g, 0, none⟩) n nz) n (lsL os (i + 1)) ∧ HoldV W w.heap.size #[.int .i64 u, .int .i64 x, .slice (some ⟨g, 0, none⟩) n nz] 29 ∧ HoldV W (w.heap.size + 1) #[.int .i64 0, .int .i64 0, .slice none 0 0] 29 ∧ Below w.heap.size w W)) := hide (by rw [← HLN.out]; exact HNO.out)
        clear HNO
        by_cases h3 : x3 = 1
        · subst h3
          cases x4 with
          | true =>
            clear hm'
            go_wp2_with fail
            exact ⟨⟨i + 1, by omega, by go_num, by rw [hT1], hide (HFI.out _ HAL.out).1, hide (HFI.out _ HAL.out).2.1, hide (HFI.out _ HAL.out).2.2.1, hide (HFI.out _ HAL.out).2.2.2⟩, by simp [intOf]; omega⟩
          | false =>
            cases x5 with
            | true =>
              clear hm'
              go_wp2_with fail
              exact ⟨⟨i + 1, by omega, by go_num, by rw [hT1], hide (HFI.out _ HAL.out).1, hide (HFI.out _ HAL.out).2.1, hide (HFI.out _ HAL.out).2.2.1, hide (HFI.out _ HAL.out).2.2.2⟩, by simp [intOf]; omega⟩
            | false =>
              have hk : ¬ (3 : Int) ≤ (kk : Int) := fun h => hm' ⟨rfl, rfl, rfl, by omega⟩
              clear hm'
              go_wp2_with (go_at_call 44; refine CBH.out.mono ?_; rintro e w3 ⟨rfl, hw3⟩)
              exact ⟨⟨i + 1, by omega, by go_num, by rw [hT1], hide (HFI.out _ (HAL.out.trans (hw3.mono HAL.out.size))).1, hide (HFI.out _ (HAL.out.trans (hw3.mono HAL.out.size))).2.1, hide (HFI.out _ (HAL.out.trans (hw3.mono HAL.out.size))).2.2.1, hide (HFI.out _ (HAL.out.trans (hw3.mono HAL.out.size))).2.2.2⟩, by simp [intOf]; omega⟩
        · have h3' : (x3 == 1) = false := beq_eq_false_iff_ne.2 h3
          clear hm'
          go_wp2_with fail
          exact ⟨⟨i + 1, by omega, by go_num, by rw [hT1], hide (HFI.out _ HAL.out).1, hide (HFI.out _ HAL.out).2.1, hide (HFI.out _ HAL.out).2.2.1, hide (HFI.out _ HAL.out).2.2.2⟩, by simp [intOf]; omega⟩
    · have hin : i = n := by omega
      have HO2 := hide HO.out
      rw [hin, lsL_all _ _ (by rw [HN.out]; exact Nat.le_refl _)] at HO2
      have HSE : Hid (loseN os - loseN (os.drop i) = fn) := hide (by rw [HFN.out, List.drop_eq_nil_of_le (by rw [HN.out, hin]; exact Nat.le_refl _)]; show _ - (0 : Int) = _; omega)
      have r0 := HR.out.cell 0 _ rfl; have r1 := HR.out.cell 1 _ rfl; have r2 := HR.out.cell 2 _ rfl; have rf := HR.out.frozen
      clear HO HX HR
      generalize loseN os - loseN (os.drop i) = sv at *
      go_wp2_with fail
      exact bodyPost_ret (v := .tuple #[.agg #[.int .i64 u, .int .i64 x, .slice bz n nz], .int .i64 sv, .int .i64 0]) (by simp [results, Try.results24, go_sem, r0, r1, r2]) rfl ⟨_, by rw [HSE.out], by rw [HFL.out]; exact ownP_mono (row_own (row_gr HO2.out (gr_set (gr_set (gr_set (grown_reflp _ _) 0 _) 1 _) 2 _) (by omega)) (by rw [opLose_len, HN.out])) (by omega), below_gr HB.out (gr_set (gr_set (gr_set (grown_reflp _ _) 0 _) 1 _) 2 _) HB.out.size (Nat.le_succ _)⟩
end Go.Proofs.Ytddkcgngpclgfaa
