/-
Contracts of functions of this seat.
-/
import Derived.Test.YtlkbmdkidpfioaaRows
import Derived.WalkKit
import Derived.ProofKit
import Derived.OpenShut
import Derived.Deep.QuietTactic
import Derived.Below
import Derived.Laws.Externs
import Derived.OwnWalk
import Derived.BigQuiet
import Derived.ArgAppend
import Derived.RegionTactic
import Derived.ChangeAlike
import Derived.Lib.QuietBelow
import Derived.Laws.OwnMore
import Derived.Lib.MinMax
import Derived.Deep.RegionHeld3
import Derived.Deep.RegionWith
import Derived.Deep.DeepAppendRoom
import Derived.Deep.Cut
import Derived.Laws.MakeOwn
import Derived.Deep.RegionLawGrows
import Derived.Deep.AppendLies
import Derived.StillTailTactics
import Derived.Test.YtlkbmdkidpfioaaPc
namespace Go.Proofs.Ytlkbmdkidpfioaa
open Go.ChangeShapes Go.WideShapes Go.ChangeAt Go.RowKit
set_option linter.unusedVariables false
set_option maxRecDepth 100000
set_option maxRecDepth 100000
theorem row_arr {W : World} {BB n c : Nat} {a : Option Addr} {os : List PieceM} (h : RowP W BB (.slice a n c) n os) (hn : os.length = n) : ArrP W a (os.flatMap valPiece) := by
  obtain ⟨a', c', e, ha, _⟩ := arrP_own (row_own h hn)
  injection e with e1 e2 e3
  rw [e1]
  exact ha
theorem lose_drop_le : ∀ (os : List PieceM) (u m : Int), chk u os = some m → ∀ i, loseN (os.drop i) ≤ loseN os
  | [], _, _, _, i => by simp
  | o :: os, u, m, h, 0 => Int.le_refl _
  | o :: os, u, m, h, i + 1 => by
    by_cases hh : o.f0 = u ∧ vp o
    · rw [chk_cons hh.1 hh.2] at h
      have h1 := lose_drop_le os _ _ h i
      have h2 := hh.2.1
      show loseN (os.drop i) ≤ (if mustL o os then o.f1 - o.f0 else 0) + loseN os
      split <;> omega
    · rw [chk_ill hh] at h; cases h
/-- The first i pieces as they must be lost, the others as they were. -/
def lsL (os : List PieceM) (i : Nat) : List PieceM := (loseL os).take i ++ os.drop i
theorem lsL_zero (os : List PieceM) : lsL os 0 = os := by unfold lsL; simp
theorem lsL_len (os : List PieceM) (i : Nat) (h : i ≤ os.length) : (lsL os i).length = os.length := by unfold lsL; rw [List.length_append, List.length_take, opLose_len, List.length_drop]; omega
theorem lsL_all (os : List PieceM) (i : Nat) (h : os.length ≤ i) : lsL os i = loseL os := by unfold lsL; rw [List.take_of_length_le (by rw [opLose_len]; exact h), List.drop_eq_nil_of_le h, List.append_nil]
theorem lsL_tl (os : List PieceM) (i : Nat) (h : i < os.length) : ((loseL os).take i).length = i := by rw [List.length_take, opLose_len]; omega
theorem lsL_get (os : List PieceM) (i : Nat) (h : i < os.length) (h2 : i < (lsL os i).length) : (lsL os i)[i] = os[i] := by
  have e : (lsL os i)[i]? = os[i]? := by
    unfold lsL
    have hl := lsL_tl os i h
    rw [List.getElem?_append_right (by rw [hl]; exact Nat.le_refl _), hl, Nat.sub_self, List.getElem?_drop]
    rfl
  rw [List.getElem?_eq_getElem h2, List.getElem?_eq_getElem h] at e
  exact Option.some.inj e
theorem lsL_drop (os : List PieceM) (i : Nat) (h : i < os.length) : (lsL os i).drop (i + 1) = os.drop (i + 1) := by
  unfold lsL
  have hl := lsL_tl os i h
  rw [List.drop_append, hl, List.drop_eq_nil_of_le (by rw [hl]; omega), List.nil_append, List.drop_drop]
  congr 1; omega
theorem loseL_get : ∀ (os : List PieceM) (i : Nat) (h : i < os.length), (loseL os)[i]? = some (if mustL os[i] (os.drop (i + 1)) then lostP os[i] else os[i])
  | o :: os, 0, _ => rfl
  | o :: os, i + 1, h => loseL_get os i (by simpa using h)
theorem lsL_next (os : List PieceM) (i : Nat) (h : i < os.length) : (if mustL os[i] (os.drop (i + 1)) then (lsL os i).set i (lostP os[i]) else lsL os i) = lsL os (i + 1) := by
  have hl := lsL_tl os i h
  have hg := loseL_get os i h
  have hlt : i < (loseL os).length := by rw [opLose_len]; exact h
  have e1 : lsL os (i + 1) = (loseL os).take i ++ (if mustL os[i] (os.drop (i + 1)) then lostP os[i] else os[i]) :: os.drop (i + 1) := by
    unfold lsL
    rw [List.take_succ_eq_append_getElem hlt, List.append_assoc]
    rw [List.getElem?_eq_getElem hlt] at hg
    rw [Option.some.inj hg]
    rfl
  rw [e1]
  by_cases hm : mustL os[i] (os.drop (i + 1))
  · rw [if_pos hm, if_pos hm]
    unfold lsL
    rw [List.set_append_right _ _ (by rw [hl]; exact Nat.le_refl _), hl, Nat.sub_self, List.drop_eq_getElem_cons h]
    rfl
  · rw [if_neg hm, if_neg hm]
    unfold lsL
    rw [List.drop_eq_getElem_cons h]
set_option maxHeartbeats 4000000 in
theorem l15Behind_walk (u x : Int) (a : Option Addr) (n c : Nat) (os : List PieceM) (i : Nat) (w : World) (hn : os.length = n) (ha : ArrP w a (os.flatMap valPiece)) (hm : n ≤ 1048576) (hi : i < n) :
    Calls Try.prog 66 #[.agg #[.int .i64 u, .int .i64 x, .slice a n c], .int .i64 (i : Int)] w fun e w' => e = .returned (.int .i64 ((sackN (os.drop (i + 1)) : Nat) : Int)) ∧ Below w.heap.size w w' := by
  have HB0 := hide (BoxV.start w #[.int .i64 u, .int .i64 x, .slice a n c] 29)
  have HN := hide hn; have HA := hide ha
  have hi1 : (i : Int) + 1 = ((i + 1 : Nat) : Int) := by omega
  have HI1 := hide hi1
  clear hn ha hi1
  go_enter Try.func66, Try.ntmps66
  go_wp2_with fail
  go_loopw [5, 6] (fun s t w2 => ∃ k d : Nat, i + 1 ≤ k ∧ k ≤ n ∧ t = .int .i64 (k : Int) ∧ s = .int .i64 (d : Int) ∧ Hid (d + sackN (os.drop k) = sackN (os.drop (i + 1))) ∧ d ≤ k ∧ Hid (BoxV w w2 #[.int .i64 u, .int .i64 x, .slice a n c] 29)) (fun _ t _ => n - (intOf t).toNat)
  case atStart => exact ⟨i + 1, 0, Nat.le_refl _, by omega, by rw [HI1.out], rfl, hide (by rw [Nat.zero_add]), by omega, HB0⟩
  case round =>
    obtain ⟨k, d, hk1, hk2, rfl, rfl, HD, hd, HB⟩ := hrel
    have b2 := HB.out.cell 2 _ rfl
    by_cases hlt : k < n
    · have hko : k < os.length := by rw [HN.out]; exact hlt
      obtain ⟨b, off, rfl, hbs, _, _, _, _, c4, _⟩ := piece_cells (HA.out.below HB.out.1 (Nat.le_refl _)) hko
      have HS : Hid (sackN (os.drop k) = (if os[k].f4 = true then 1 else 0) + sackN (os.drop (k + 1))) := hide (by rw [List.drop_eq_getElem_cons hko]; rfl)
      generalize os[k].f4 = x4 at *
      cases x4 with
      | true =>
        have HD2 : Hid (d + 1 + sackN (os.drop (k + 1)) = sackN (os.drop (i + 1))) := hide (by rw [← HD.out, HS.out]; simp; omega)
        go_wp2_with fail
        exact ⟨⟨k + 1, d + 1, by omega, by omega, by go_num, by go_num, HD2, by omega, HB⟩, by simp [intOf]; omega⟩
      | false =>
        have HD2 : Hid (d + sackN (os.drop (k + 1)) = sackN (os.drop (i + 1))) := hide (by rw [← HD.out, HS.out]; simp)
        go_wp2_with fail
        exact ⟨⟨k + 1, d, by omega, by omega, by go_num, rfl, HD2, by omega, HB⟩, by simp [intOf]; omega⟩
    · have hkn : k = n := by omega
      have HE : Hid ((d : Int) = ((sackN (os.drop (i + 1)) : Nat) : Int)) := hide (by rw [← HD.out, List.drop_eq_nil_of_le (by rw [HN.out, hkn]; exact Nat.le_refl _)]; rfl)
      go_wp2_with fail
      go_ret
      exact ⟨ret_int HE.out, HB.out.1⟩

set_option maxHeartbeats 16000000 in
theorem specLose_yes {u x : Int} {os : List PieceM} (hok : bOK u x os) : BoardLoseP 57 (fun _ => True) u x os u x (loseL os) (loseN os) 0 := by
  intro a n cap w hn ha hc hm _
  obtain ⟨hb2, hX, hR⟩ := two_boxes w #[.int .i64 u, .int .i64 x, .slice a n cap] #[.int .i64 0, .int .i64 0, .slice none 0 0] 29 29
  have HB2 := hide hb2; have HX := hide hX; have HR := hide hR
  have k0 := hX.cell 0 _ rfl; have k1 := hX.cell 1 _ rfl; have k2 := hX.cell 2 _ rfl
  have CV := hide (l15OK_walk u x a n cap os ((w.alloc (.cells #[.int .i64 u, .int .i64 x, .slice a n cap] 29)).alloc (.cells #[.int .i64 0, .int .i64 0, .slice none 0 0] 29)) hn (ha.below hb2 (Nat.le_refl _)) hm)
  rw [bokB_yes hok] at CV
  have HN := hide hn
  have HOK := hide hok
  obtain ⟨fl, hfl⟩ : ∃ fl, fl = loseL os := ⟨_, rfl⟩
  obtain ⟨fn, hfn⟩ : ∃ fn, fn = loseN os := ⟨_, rfl⟩
  rw [← hfl, ← hfn]
  have HFL := hide hfl; have HFN := hide hfn
  clear hfl hfn
  have HA := hide (ha.below hb2 (Nat.le_refl _))
  have hV : w.heap.size + 1 < ((w.alloc (.cells #[.int .i64 u, .int .i64 x, .slice a n cap] 29)).alloc (.cells #[.int .i64 0, .int .i64 0, .slice none 0 0] 29)).heap.size := hR.lt
  clear hn ha hok hb2 hX hR
  go_enter Try.func57, Try.ntmps57
  go_wp2_with fail
  generalize (w.alloc (.cells #[.int .i64 u, .int .i64 x, .slice a n cap] 29)).alloc (.cells #[.int .i64 0, .int .i64 0, .slice none 0 0] 29) = V at *
  refine CV.out.mono ?_
  rintro e w1 ⟨rfl, hw1⟩
  have CC := hide (l15Copy_walk u x a n cap os w1 HN.out (HA.out.below hw1 (Nat.le_refl _)) hm)
  have HR1 := hide (HR.out.next hw1)
  have HX1 := hide (HX.out.next hw1)
  have HB1 : Hid (Below w.heap.size w w1) := hide (HB2.out.trans (hw1.mono HB2.out.size))
  have hV1 := hw1.size
  clear hw1 CV k0 k1 k2 HB2 HX HR
  have k0 := HX1.out.cell 0 _ rfl; have k1 := HX1.out.cell 1 _ rfl; have k2 := HX1.out.cell 2 _ rfl
  go_wp2_with fail
  refine CC.out.mono ?_
  rintro e w2 ⟨v, rfl, hO, hw2⟩
  obtain ⟨bz, nz, rfl⟩ := hO.form
  have HR2 := hide (HR1.out.next hw2)
  have HX2 := hide (HX1.out.next hw2)
  have HB3 : Hid (Below w.heap.size w w2) := hide (HB1.out.trans (hw2.mono HB1.out.size))
  have HO := hide hO
  have hBB : w.heap.size + 2 ≤ w1.heap.size + 2 := by omega
  clear hO hw2 CC HB1 HR1 HX1 k0 k1 k2
  have k0 := HX2.out.cell 0 _ rfl; have k1 := HX2.out.cell 1 _ rfl; have k2 := HX2.out.cell 2 _ rfl; have kf := HX2.out.frozen
  go_upto_region 4 with fail
  have HX3 := hide (hv_set (hv_set (hv_set HX2.out 0 (.int .i64 u)) 1 (.int .i64 x)) 2 (.slice bz n nz))
  have HR3 := hide (hv_other (hv_other (hv_other HR2.out (C := w.heap.size) (by omega) 0 (.int .i64 u)) (C := w.heap.size) (by omega) 1 (.int .i64 x)) (C := w.heap.size) (by omega) 2 (.slice bz n nz))
  have hg3 : w2.grownBy (((w2.setCell ⟨w.heap.size, 0, none⟩ (.int .i64 u)).setCell ⟨w.heap.size, 1, none⟩ (.int .i64 x)).setCell ⟨w.heap.size, 2, none⟩ (.slice bz n nz)) (some w.heap.size) := gr_set (gr_set (gr_set (grown_reflp _ _) 0 _) 1 _) 2 _
  have HO3 := hide (row_gr HO.out hg3 (by omega))
  have HB4 := hide (below_gr HB3.out hg3 HB3.out.size (Nat.le_refl _))
  clear k0 k1 k2 kf HX2 HR2 HO HB3 hg3
  generalize ((w2.setCell ⟨w.heap.size, 0, none⟩ (.int .i64 u)).setCell ⟨w.heap.size, 1, none⟩ (.int .i64 x)).setCell ⟨w.heap.size, 2, none⟩ (.slice bz n nz) = W at *
  have hBB2 : w.heap.size + 2 ≤ w1.heap.size + 2 := hBB
  generalize w1.heap.size + 2 = BB at *
  go_wp2_with fail
  go_loopw [5, 6] (fun s t w2 => ∃ i : Nat, i ≤ n ∧ t = .int .i64 i ∧ s = .int .i64 (loseN os - loseN (os.drop i)) ∧ Hid (RowP w2 BB (.slice bz n nz) n (lsL os i)) ∧ Hid (HoldV w2 w.heap.size #[.int .i64 u, .int .i64 x, .slice bz n nz] 29) ∧ Hid (HoldV w2 (w.heap.size + 1) #[.int .i64 0, .int .i64 0, .slice none 0 0] 29) ∧ Hid (Below w.heap.size w w2)) (fun _ t _ => n - (intOf t).toNat)
  case atStart => exact ⟨0, Nat.zero_le _, rfl, by rw [List.drop_zero, Int.sub_self], hide (by rw [lsL_zero]; exact HO3.out), HX3, HR3, HB4⟩
  case round =>
    obtain ⟨i, hi, rfl, rfl, HO, HX, HR, HB⟩ := hrel
    have k0 := HX.out.cell 0 _ rfl; have k1 := HX.out.cell 1 _ rfl; have k2 := HX.out.cell 2 _ rfl
    by_cases hlt : i < n
    · have hio : i < os.length := by rw [HN.out]; exact hlt
      obtain ⟨g, cp, e, hgB, hgl⟩ := HO.out.some (by omega)
      injection e with e1 e2 e3
      subst e1 e3
      have hl : i < (lsL os i).length := by rw [lsL_len _ _ (by omega)]; exact hio
      have hget := lsL_get os i hio hl
      have hcl : (lsL os i).length = n := by rw [lsL_len _ _ (by omega)]; exact HN.out
      have HBH := hide (show lsL os i = (loseL os).take i ++ os.drop i from rfl)
      have HSK : Hid (sackN ((lsL os i).drop (i + 1)) = sackN (os.drop (i + 1))) := hide (by rw [lsL_drop os i hio])
      have HDR : Hid (loseN (os.drop i) = (if mustL os[i] (os.drop (i + 1)) then os[i].f1 - os[i].f0 else 0) + loseN (os.drop (i + 1))) := hide (by rw [List.drop_eq_getElem_cons hio]; rfl)
      have HLI : Hid (mustL os[i] (os.drop (i + 1)) ↔ os[i].f3 = 1 ∧ os[i].f4 = false ∧ os[i].f5 = false ∧ 3 ≤ sackN (os.drop (i + 1))) := hide Iff.rfl
      have HNX : Hid ((if mustL os[i] (os.drop (i + 1)) then (lsL os i).set i (lostP os[i]) else lsL os i) = lsL os (i + 1)) := hide (lsL_next os i hio)
      obtain ⟨q0, q1, q2⟩ : 0 ≤ os[i].f0 ∧ os[i].f0 < os[i].f1 ∧ os[i].f1 ≤ 1099511627776 := bOK_piece HOK.out (List.getElem_mem hio)
      obtain ⟨t0, t1⟩ : 0 ≤ loseN (os.drop i) ∧ loseN (os.drop i) ≤ 1099511627776 := bOK_tail (a := os.take i) (by rw [List.take_append_drop]; exact HOK.out)
      obtain ⟨s0, s1⟩ : 0 ≤ loseN os ∧ loseN os ≤ 1099511627776 := bOK_tail (a := []) HOK.out
      have hdiff : loseN (os.drop i) ≤ loseN os := lose_drop_le _ _ _ HOK.out.2.2.2 i
      obtain ⟨p0, p1⟩ : 0 ≤ loseN (os.drop (i + 1)) ∧ loseN (os.drop (i + 1)) ≤ 1099511627776 := bOK_tail (a := os.take (i + 1)) (by rw [List.take_append_drop]; exact HOK.out)
      have hsk : sackN (os.drop (i + 1)) ≤ 4096 := by have h1 := sackN_le (os.drop (i + 1)); have h2 := HOK.out.2.2.1; rw [List.length_drop] at h1; omega
      have c0 := HO.out.at hcl hl (j := 0) (by omega); have c1 := HO.out.at hcl hl (j := 1) (by omega); have c2 := HO.out.at hcl hl (j := 2) (by omega); have c3 := HO.out.at hcl hl (j := 3) (by omega); have c4 := HO.out.at hcl hl (j := 4) (by omega); have c5 := HO.out.at hcl hl (j := 5) (by omega)
      rw [hget] at c0 c1 c2 c3 c4 c5
      have HPUT : Hid (∀ W, Below wr.heap.size wr W → RowP (W.setCell ⟨g, i * 6 + 5, none⟩ (.bool true)) BB (.slice (some ⟨g, 0, none⟩) n nz) n ((lsL os i).set i (⟨os[i].f0, os[i].f1, os[i].f2, os[i].f3, os[i].f4, true⟩ : PieceM))) := hide (fun W hW => (HO.out.next hW).put hl (j := 5) (by omega) (.bool true) _ (by rw [hget]; rfl))
      generalize os[i] = o at *
      obtain ⟨x0, x1, x2, x3, x4, x5⟩ := o
      have d0 : wr.cell? ⟨g, i * 6, none⟩ = some (.int .i64 x0) := c0
      have d1 : wr.cell? ⟨g, i * 6 + 1, none⟩ = some (.int .i64 x1) := c1
      have d2 : wr.cell? ⟨g, i * 6 + 2, none⟩ = some (.int .i64 x2) := c2
      have d3 : wr.cell? ⟨g, i * 6 + 3, none⟩ = some (.int .i64 x3) := c3
      have d4 : wr.cell? ⟨g, i * 6 + 4, none⟩ = some (.bool x4) := c4
      have d5 : wr.cell? ⟨g, i * 6 + 5, none⟩ = some (.bool x5) := c5
      try dsimp only at q0 q1 q2
      clear c0 c1 c2 c3 c4 c5
      have hal := (Below.refl wr.heap.size wr).alloc (Nat.le_refl _) (.cells #[.int .i64 x0, .int .i64 x1, .int .i64 x2, .int .i64 x3, .bool x4, .bool x5] 48)
      have HPB : Hid (HoldV (wr.alloc (.cells #[.int .i64 x0, .int .i64 x1, .int .i64 x2, .int .i64 x3, .bool x4, .bool x5] 48)) wr.heap.size _ 48) := hide (hv_new _ _ _)
      have r0 := HPB.out.cell 0 _ rfl; have r1 := HPB.out.cell 1 _ rfl; have r2 := HPB.out.cell 2 _ rfl; have r3 := HPB.out.cell 3 _ rfl; have r4 := HPB.out.cell 4 _ rfl; have r5 := HPB.out.cell 5 _ rfl
      have CBH := hide (l15Behind_walk u x (some ⟨g, 0, none⟩) n nz (lsL os i) i (wr.alloc (.cells #[.int .i64 x0, .int .i64 x1, .int .i64 x2, .int .i64 x3, .bool x4, .bool x5] 48)) hcl (row_arr (HO.out.next hal) hcl) (by omega) hlt)
      rw [HSK.out] at CBH
      have HAL := hide hal
      have hX1 := HX.out.lt
      have hneg : w.heap.size ≠ g := by omega
      have k0' := (HX.out.next hal).cell 0 _ rfl; have k1' := (HX.out.next hal).cell 1 _ rfl; have k2' := (HX.out.next hal).cell 2 _ rfl
      have HNO : Hid (∀ W, Below wr.heap.size wr W → RowP W BB (.slice (some ⟨g, 0, none⟩) n nz) n (lsL os i) ∧ HoldV W w.heap.size #[.int .i64 u, .int .i64 x, .slice (some ⟨g, 0, none⟩) n nz] 29 ∧ HoldV W (w.heap.size + 1) #[.int .i64 0, .int .i64 0, .slice none 0 0] 29 ∧ Below w.heap.size w W) := hide (fun W hW => ⟨HO.out.next hW, HX.out.next hW, HR.out.next hW, HB.out.trans (hW.mono HB.out.size)⟩)
      clear hal HO HX HR HB hcl hget hl HBH
      generalize loseN os = S0 at *
      generalize loseN (os.drop i) = T0 at *
      generalize hT1 : loseN (os.drop (i + 1)) = T1 at *
      generalize sackN (os.drop (i + 1)) = kk at *
      by_cases hm : mustL (⟨x0, x1, x2, x3, x4, x5⟩ : PieceM) (os.drop (i + 1))
      · obtain ⟨m1, m2, m3, m4⟩ := HLI.out.1 hm
        have hm1 : x3 = 1 := m1
        have hm2 : x4 = false := m2
        have hm3 : x5 = false := m3
        subst hm1 hm2 hm3
        have hT : T0 = x1 - x0 + T1 := by have := HDR.out; rw [if_pos hm] at this; exact this
        have HLN : Hid ((lsL os i).set i (⟨x0, x1, x2, 1, false, true⟩ : PieceM) = lsL os (i + 1)) := hide (by have := HNX.out; rw [if_pos hm] at this; exact this)
        have HSV : Hid (S0 - T0 + x1 - x0 = S0 - T1) := hide (by omega)
        have m4' : (3 : Int) ≤ (kk : Int) := by omega
        clear hm m1 m2 m3 m4 HLI HDR HNX
        go_upto_region 10 with (go_at_call 66; refine CBH.out.mono ?_; rintro e w3 ⟨rfl, hw3⟩)
        have hbw := HAL.out.trans (hw3.mono HAL.out.size)
        have hno := HNO.out w3 hbw
        have k2w := hno.2.1.cell 2 _ rfl
        have d5w : w3.cell? ⟨g, i * 6 + 5, none⟩ = some (.bool false) := by rw [hbw.cell (p := ⟨g, i * 6 + 5, none⟩) (by exact lt_cell d5)]; exact d5
        have cfw := row_frozen hno.1
        have HRO := hide (HPUT.out w3 hbw)
        have HX3' := hide (hv_other hno.2.1 (C := g) (by omega) (i * 6 + 5) (.bool true))
        have HR3' := hide (hv_other hno.2.2.1 (C := g) (by omega) (i * 6 + 5) (.bool true))
        have HB3' := hide (hno.2.2.2.setCell (p := ⟨g, i * 6 + 5, none⟩) (by show w.heap.size ≤ g; omega) (.bool true))
        have HPZ := hide (hv_other (HPB.out.next hw3) (C := g) (by have := HAL.out.size; have := lt_cell d5; omega) (i * 6 + 5) (.bool true))
        clear hno hbw hw3 HPB r0 r1 r2 r3 r4 r5 k0 k1 k2 k0' k1' k2' d0 d1 d2 d3 d4 d5 CBH HNO HPUT HAL
        have z0 := HPZ.out.cell 0 _ rfl; have z1 := HPZ.out.cell 1 _ rfl
        go_upto_region 11 with fail
        clear k2w d5w cfw
        generalize w3.setCell ⟨g, i * 6 + 5, none⟩ (.bool true) = w4 at *
        go_wp2_with fail
        exact ⟨⟨i + 1, by omega, by go_num, by rw [hT1]; exact congrArg (Value.int .i64) (by omega), hide (by rw [← HLN.out]; exact HRO.out), HX3', HR3', HB3'⟩, by simp [intOf]; omega⟩
      · have hT : T0 = T1 := by have := HDR.out; rw [if_neg hm] at this; omega
        have HLN : Hid (lsL os i = lsL os (i + 1)) := hide (by have := HNX.out; rw [if_neg hm] at this; exact this)
        have hm' : ¬ (x3 = 1 ∧ x4 = false ∧ x5 = false ∧ 3 ≤ kk) := fun h => hm (HLI.out.2 h)
        subst hT
        clear hm HLI HDR HNX HPUT
        have HFI : Hid (∀ W, Below wr.heap.size wr W → (RowP W BB (.slice (some ⟨g, 0, none⟩) n nz) n (lsL os (i + 1)) ∧ HoldV W w.heap.size #[.int .i64 u, .int .i64 x, .slice (some ⟨g, 0, none⟩) n nz] 29 ∧ HoldV W (w.heap.size + 1) #[.int .i64 0, .int .i64 0, .slice none 0 0] 29 ∧ Below w.heap.size w W)) := hide (by rw [← HLN.out]; exact HNO.out)
        clear HNO
        by_cases h3 : x3 = 1
        · subst h3
          cases x4 with
          | true =>
            clear hm'
            go_wp2_with fail
            exact ⟨⟨i + 1, by omega, by go_num, by rw [hT1], hide (HFI.out _ HAL.out).1, hide (HFI.out _ HAL.out).2.1, hide (HFI.out _ HAL.out).2.2.1, hide (HFI.out _ HAL.out).2.2.2⟩, by simp [intOf]; omega⟩
          | false =>
            cases x5 with
            | true =>
              clear hm'
              go_wp2_with fail
              exact ⟨⟨i + 1, by omega, by go_num, by rw [hT1], hide (HFI.out _ HAL.out).1, hide (HFI.out _ HAL.out).2.1, hide (HFI.out _ HAL.out).2.2.1, hide (HFI.out _ HAL.out).2.2.2⟩, by simp [intOf]; omega⟩
            | false =>
              have hk : ¬ (3 : Int) ≤ (kk : Int) := fun h => hm' ⟨rfl, rfl, rfl, by omega⟩
              clear hm'
              go_wp2_with (go_at_call 66; refine CBH.out.mono ?_; rintro e w3 ⟨rfl, hw3⟩)
              exact ⟨⟨i + 1, by omega, by go_num, by rw [hT1], hide (HFI.out _ (HAL.out.trans (hw3.mono HAL.out.size))).1, hide (HFI.out _ (HAL.out.trans (hw3.mono HAL.out.size))).2.1, hide (HFI.out _ (HAL.out.trans (hw3.mono HAL.out.size))).2.2.1, hide (HFI.out _ (HAL.out.trans (hw3.mono HAL.out.size))).2.2.2⟩, by simp [intOf]; omega⟩
        · have h3' : (x3 == 1) = false := beq_eq_false_iff_ne.2 h3
          clear hm'
          go_wp2_with fail
          exact ⟨⟨i + 1, by omega, by go_num, by rw [hT1], hide (HFI.out _ HAL.out).1, hide (HFI.out _ HAL.out).2.1, hide (HFI.out _ HAL.out).2.2.1, hide (HFI.out _ HAL.out).2.2.2⟩, by simp [intOf]; omega⟩
    · have hin : i = n := by omega
      have HO2 := hide HO.out
      rw [hin, lsL_all _ _ (by rw [HN.out]; exact Nat.le_refl _)] at HO2
      have HSE : Hid (loseN os - loseN (os.drop i) = fn) := hide (by rw [HFN.out, List.drop_eq_nil_of_le (by rw [HN.out, hin]; exact Nat.le_refl _)]; show _ - (0 : Int) = _; omega)
      have r0 := HR.out.cell 0 _ rfl; have r1 := HR.out.cell 1 _ rfl; have r2 := HR.out.cell 2 _ rfl; have rf := HR.out.frozen
      clear HO HX HR
      generalize loseN os - loseN (os.drop i) = sv at *
      go_wp2_with fail
      exact bodyPost_ret (v := .tuple #[.agg #[.int .i64 u, .int .i64 x, .slice bz n nz], .int .i64 sv, .int .i64 0]) (by simp [results, Try.results57, go_sem, r0, r1, r2]) rfl ⟨_, by rw [HSE.out], by rw [HFL.out]; exact ownP_mono (row_own (row_gr HO2.out (gr_set (gr_set (gr_set (grown_reflp _ _) 0 _) 1 _) 2 _) (by omega)) (by rw [opLose_len, HN.out])) (by omega), below_gr HB.out (gr_set (gr_set (gr_set (grown_reflp _ _) 0 _) 1 _) 2 _) HB.out.size (Nat.le_succ _)⟩
set_option maxRecDepth 100000
/-- What is wanted of BoardFirst. -/
def BoardFirstP (f : Nat) (Pre : World → Prop) (x0_0 : Int) (x0_1 : Int) (z0_0 : List PieceM) (y0_0 : Int) (y0_1 : Int) (L0_0 : List PieceM) (C1 : Int) (C2 : Int) : Prop :=
  ∀ (a0_0 : Option Addr) (n0_0 c0_0 : Nat) (W : World), z0_0.length = n0_0 → ArrP W a0_0 (z0_0.flatMap valPiece) → n0_0 ≤ c0_0 → n0_0 ≤ 1048576 → Pre W → Calls Try.prog f #[.agg #[.int .i64 x0_0, .int .i64 x0_1, .slice a0_0 n0_0 c0_0]] W fun e w' => ∃ v0_0 : Value, e = .returned (.tuple #[.agg #[.int .i64 y0_0, .int .i64 y0_1, v0_0], .int .i64 C1, .int .i64 C2]) ∧ OwnP w' W.heap.size v0_0 L0_0 ∧ Below W.heap.size W w'
set_option maxRecDepth 100000
/-- The first piece, taken for lost; how many bytes. -/
def firstL : List PieceM → List PieceM
  | [] => []
  | o :: r => (if o.f4 = false ∧ o.f5 = false then lostP o else o) :: r
def firstN : List PieceM → Int
  | [] => 0
  | o :: _ => if o.f4 = false ∧ o.f5 = false then o.f1 - o.f0 else 0
theorem opFirst_len (os : List PieceM) : (firstL os).length = os.length := by cases os <;> rfl
set_option maxHeartbeats 8000000 in
theorem loseFirst_walk (B L : Nat) (u x : Int) (ns : List (Nat × PieceM)) (w : World) (h : DL w B L u x ns) (hB : B ≤ w.heap.size) (hok : bOK u x (ns.map Prod.snd)) :
    Calls Try.prog 32 #[.pointer (some ⟨L, 0, none⟩)] w fun e w' => ∃ ns2, e = .returned (.int .i64 (firstN (ns.map Prod.snd))) ∧ DL w' B L u x ns2 ∧ ns2.map Prod.snd = firstL (ns.map Prod.snd) ∧ Below B w w' := by
  have HD := hide h; have HOK := hide hok
  have l3 := h.head.cell 3 _ rfl
  cases ns with
  | nil =>
    have l3' : w.cell? ⟨L, 3, none⟩ = some (.pointer none) := l3
    clear l3 h hok
    go_enter Try.func32, Try.ntmps32
    go_wp2_with fail
    go_ret
    exact ⟨[], rfl, HD.out, rfl, Below.refl _ _⟩
  | cons p ns =>
    obtain ⟨c, q⟩ := p
    have l3' : w.cell? ⟨L, 3, none⟩ = some (.pointer (some ⟨c, 0, none⟩)) := l3
    have hC : HoldV w c (lpV q none (fstO ns none)) lpT := DL.at (xs := []) h
    have hcB : B ≤ c := h.lo c (by simp [bks])
    have hL := h.head.lt
    obtain ⟨q0, q1, q2⟩ : 0 ≤ q.f0 ∧ q.f0 < q.f1 ∧ q.f1 ≤ 1099511627776 := bOK_piece hok (by simp)
    have HC := hide hC
    obtain ⟨x0, x1, x2, x3, x4, x5⟩ := q
    have c0 := hC.cell 0 _ rfl; have c1 := hC.cell 1 _ rfl; have c2 := hC.cell 2 _ rfl; have c3 := hC.cell 3 _ rfl; have c4 := hC.cell 4 _ rfl; have c5 := hC.cell 5 _ rfl
    dsimp only at q0 q1 q2 c0 c1 c2 c3 c4 c5
    have CW := hide (onWay_walk x0 x1 x2 x3 x4 x5 w)
    clear l3 h hok hC
    cases hw : (!x4 && !x5) with
    | false =>
      have HV : Hid (firstN ((((c, (⟨x0, x1, x2, x3, x4, x5⟩ : PieceM)) :: ns)).map Prod.snd) = 0) := hide (by show (if x4 = false ∧ x5 = false then _ else _) = _; rw [if_neg (by cases x4 <;> cases x5 <;> simp_all)])
      have HL2 : Hid (firstL ((((c, (⟨x0, x1, x2, x3, x4, x5⟩ : PieceM)) :: ns)).map Prod.snd) = ((((c, (⟨x0, x1, x2, x3, x4, x5⟩ : PieceM)) :: ns)).map Prod.snd)) := hide (by show (if x4 = false ∧ x5 = false then _ else _) :: _ = _; rw [if_neg (by cases x4 <;> cases x5 <;> simp_all)]; rfl)
      rw [hw] at CW
      clear hw
      go_enter Try.func32, Try.ntmps32
      go_wp2_with (go_at_call 41; refine CW.out.mono ?_; rintro e w2 ⟨rfl, hw2⟩)
      go_ret
      exact ⟨_, ret_int HV.out.symm, HD.out.next hw2, HL2.out.symm, hw2.mono hB⟩
    | true =>
      have HV : Hid (firstN ((((c, (⟨x0, x1, x2, x3, x4, x5⟩ : PieceM)) :: ns)).map Prod.snd) = x1 - x0) := hide (by show (if x4 = false ∧ x5 = false then _ else _) = _; rw [if_pos (by cases x4 <;> cases x5 <;> simp_all)])
      have HL2 : Hid (firstL ((((c, (⟨x0, x1, x2, x3, x4, x5⟩ : PieceM)) :: ns)).map Prod.snd) = ((((c, lostP (⟨x0, x1, x2, x3, x4, x5⟩ : PieceM)) :: ns)).map Prod.snd)) := hide (by show (if x4 = false ∧ x5 = false then _ else _) :: _ = _; rw [if_pos (by cases x4 <;> cases x5 <;> simp_all)]; rfl)
      rw [hw] at CW
      clear hw
      go_enter Try.func32, Try.ntmps32
      go_upto_region 3 with (go_at_call 41; refine CW.out.mono ?_; rintro e w2 ⟨rfl, hw2⟩; have l3' := (HD.out.next hw2).head.cell 3 (.pointer (some ⟨c, 0, none⟩)) rfl)
      have CM := hide (markLost_walk c ⟨x0, x1, x2, x3, x4, x5⟩ _ _ w2 (HC.out.next hw2) q0 q1 q2)
      have hbs := hw2.size
      go_wp2_with fail
      refine CM.out.mono ?_
      rintro e w3 ⟨rfl, hc3, hg3⟩
      go_wp2_with fail
      go_ret
      refine ⟨(c, lostP ⟨x0, x1, x2, x3, x4, x5⟩) :: ns, ret_int HV.out.symm, ?_, HL2.out.symm, below_gr (hw2.mono hB) hg3 (by omega) hcB⟩
      exact (HD.out.next hw2).put (xs := []) (lostP ⟨x0, x1, x2, x3, x4, x5⟩) hc3 (fun k hk hlt => hg3.block k hlt (fun e => hk (Option.some.inj e)))

set_option maxHeartbeats 4000000 in
theorem implFirst_yes {u x : Int} {os : List PieceM} (hok : bOK u x os) : BoardFirstP 14 (fun _ => True) u x os u x (firstL os) (firstN os) 0 := by
  intro a n cap w hn ha hc hm _
  obtain ⟨hb2, hX, hR⟩ := two_boxes w #[.int .i64 u, .int .i64 x, .slice a n cap] #[.int .i64 0, .int .i64 0, .slice none 0 0] 29 29
  have HB2 := hide hb2; have HX := hide hX; have HR := hide hR
  have k0 := hX.cell 0 _ rfl; have k1 := hX.cell 1 _ rfl; have k2 := hX.cell 2 _ rfl
  have CV := hide (newPieceList_yes u x a n cap os ((w.alloc (.cells #[.int .i64 u, .int .i64 x, .slice a n cap] 29)).alloc (.cells #[.int .i64 0, .int .i64 0, .slice none 0 0] 29)) hn (ha.below hb2 (Nat.le_refl _)) hm hok)
  have HOK := hide hok
  have HN := hide hn
  have hV := hR.lt
  have HLL : Hid ((firstL os).length ≤ 1048576) := hide (by have := opFirst_len os; rw [this, hn]; exact hm)
  obtain ⟨rr, hrr⟩ : ∃ rr, rr = firstN os := ⟨_, rfl⟩
  rw [← hrr]
  have HRR := hide hrr
  clear hn ha hok hb2 hX hR hrr
  go_enter Try.func14, Try.ntmps14
  go_wp2_with fail
  generalize (w.alloc (.cells #[.int .i64 u, .int .i64 x, .slice a n cap] 29)).alloc (.cells #[.int .i64 0, .int .i64 0, .slice none 0 0] 29) = V at *
  refine CV.out.mono ?_
  rintro e w1 ⟨L, ns, rfl, hD, hM, hw1⟩
  have CL := hide (loseFirst_walk _ L u x ns w1 hD hw1.size (by rw [hM]; exact HOK.out))
  rw [hM, ← HRR.out] at CL
  have HR1 := hide (HR.out.next hw1)
  have HB1 : Hid (Below w.heap.size w w1) := hide (HB2.out.trans (hw1.mono HB2.out.size))
  have hV1 := hw1.size
  clear hD hM hw1 CV k0 k1 k2 HB2 HX HR
  go_wp2_with fail
  refine CL.out.mono ?_
  rintro e w2 ⟨ns2, rfl, hD2, hM2, hw2⟩
  have hlen : ns2.length ≤ 1048576 := by have := congrArg List.length hM2; rw [List.length_map] at this; rw [this]; exact HLL.out
  have CB := hide (board_walk _ L u x ns2 w2 hD2 hlen)
  rw [hM2] at CB
  have HR2 := hide (HR1.out.below hw2 hV)
  have HB3 : Hid (Below w.heap.size w w2) := hide (HB1.out.trans (hw2.mono (by omega)))
  have hV2 := hw2.size
  clear hD2 hM2 hw2 hlen CL HR1 HB1
  go_wp2_with fail
  refine CB.out.mono ?_
  rintro e w3 ⟨v, rfl, hO, hw3⟩
  obtain ⟨bz, nz, rfl, _⟩ := arrP_own hO
  have HR3 := hide (HR2.out.next hw3)
  have HO := hide (ownP_mono hO (C := w.heap.size + 2) (by omega))
  have HB4 : Hid (Below w.heap.size w w3) := hide (HB3.out.trans (hw3.mono HB3.out.size))
  have r0 := HR3.out.cell 0 _ rfl; have r1 := HR3.out.cell 1 _ rfl; have r2 := HR3.out.cell 2 _ rfl; have rf := HR3.out.frozen
  clear hO hw3 CB HB3 HR2
  go_wp2_with fail
  exact bodyPost_ret (v := .tuple #[.agg #[.int .i64 u, .int .i64 x, .slice bz (firstL os).length nz], .int .i64 rr, .int .i64 0]) (by simp [results, Try.results14, go_sem, r0, r1, r2]) rfl ⟨_, rfl, ownP_mono (ownP_gr HO.out (gr_set (gr_set (gr_set (grown_reflp _ _) 0 _) 1 _) 2 _) (Nat.lt_succ_self _)) (by omega), below_gr HB4.out (gr_set (gr_set (gr_set (grown_reflp _ _) 0 _) 1 _) 2 _) HB4.out.size (Nat.le_succ _)⟩
set_option maxRecDepth 100000
def A7f (X g n nz : Nat) (u x x0 x1 : Int) : Nat → Value → World → Prop
  | 0, v, _ => v = .agg #[.int .i64 u, .int .i64 x, .slice (some ⟨g, 0, none⟩) n nz]
  | 1, v, _ => v = .pointer (some ⟨X, 2, none⟩)
  | 2, v, _ => v = .slice (some ⟨g, 0, none⟩) n nz
  | 3, v, _ => v = .pointer (some ⟨g, 0, none⟩)
  | 4, v, _ => v = .pointer (some ⟨g, 1, none⟩)
  | 5, v, _ => v = .int .i64 x1
  | 6, v, _ => v = .pointer (some ⟨X, 2, none⟩)
  | 7, v, _ => v = .slice (some ⟨g, 0, none⟩) n nz
  | 8, v, _ => v = .pointer (some ⟨g, 0, none⟩)
  | 9, v, _ => v = .pointer (some ⟨g, 0, none⟩)
  | 10, v, _ => v = .int .i64 x0
  | 11, v, _ => v = .int .i64 (x1 - x0)
  | 12, _, W => HoldV W (X + 1) #[.int .i64 u, .int .i64 x, .slice (some ⟨g, 0, none⟩) n nz] 29
  | 13, v, _ => v = .int .i64 (x1 - x0)
  | _, _, _ => True
theorem A7f_kept {X g n nz : Nat} {u x x0 x1 : Int} : ∀ (i : Nat) (v : Value) (W W' : World), (W.grownBy W' (some (X + 1)) ∧ (HoldV W (X + 1) #[.int .i64 u, .int .i64 x, .slice (some ⟨g, 0, none⟩) n nz] 29 → HoldV W' (X + 1) #[.int .i64 u, .int .i64 x, .slice (some ⟨g, 0, none⟩) n nz] 29)) → A7f X g n nz u x x0 x1 i v W → A7f X g n nz u x x0 x1 i v W' := by
  intro i v W W' hg h
  unfold A7f at h ⊢
  split at h
  all_goals first
    | exact h
    | exact hg.2 h
/-- What stays at the return. -/
structure S7f (w W : World) (BB g n nz : Nat) (u x : Int) (os : List PieceM) : Prop where
  bel : Below w.heap.size w W
  box : HoldV W w.heap.size #[.int .i64 u, .int .i64 x, .slice (some ⟨g, 0, none⟩) n nz] 29
  res : HoldV W (w.heap.size + 1) #[.int .i64 0, .int .i64 0, .slice none 0 0] 29 ∨ HoldV W (w.heap.size + 1) #[.int .i64 u, .int .i64 x, .slice (some ⟨g, 0, none⟩) n nz] 29
  row : RowP W BB (.slice (some ⟨g, 0, none⟩) n nz) n os

set_option maxHeartbeats 16000000 in
theorem specFirst_yes {u x : Int} {os : List PieceM} (hok : bOK u x os) : BoardFirstP 58 (fun _ => True) u x os u x (firstL os) (firstN os) 0 := by
  intro a n cap w hn ha hc hm _
  obtain ⟨hb2, hX, hR⟩ := two_boxes w #[.int .i64 u, .int .i64 x, .slice a n cap] #[.int .i64 0, .int .i64 0, .slice none 0 0] 29 29
  have HB2 := hide hb2; have HX := hide hX; have HR := hide hR
  have k0 := hX.cell 0 _ rfl; have k1 := hX.cell 1 _ rfl; have k2 := hX.cell 2 _ rfl
  have CV := hide (l15OK_walk u x a n cap os ((w.alloc (.cells #[.int .i64 u, .int .i64 x, .slice a n cap] 29)).alloc (.cells #[.int .i64 0, .int .i64 0, .slice none 0 0] 29)) hn (ha.below hb2 (Nat.le_refl _)) hm)
  rw [bokB_yes hok] at CV
  have HN := hide hn
  have HOK := hide hok
  have HA := hide (ha.below hb2 (Nat.le_refl _))
  have hV : w.heap.size + 1 < ((w.alloc (.cells #[.int .i64 u, .int .i64 x, .slice a n cap] 29)).alloc (.cells #[.int .i64 0, .int .i64 0, .slice none 0 0] 29)).heap.size := hR.lt
  obtain ⟨fl, hfl⟩ : ∃ fl, fl = firstL os := ⟨_, rfl⟩
  obtain ⟨fn, hfn⟩ : ∃ fn, fn = firstN os := ⟨_, rfl⟩
  rw [← hfl, ← hfn]
  have HFL := hide hfl; have HFN := hide hfn
  clear hn ha hok hb2 hX hR hfl hfn
  go_enter Try.func58, Try.ntmps58
  go_wp2_with fail
  generalize (w.alloc (.cells #[.int .i64 u, .int .i64 x, .slice a n cap] 29)).alloc (.cells #[.int .i64 0, .int .i64 0, .slice none 0 0] 29) = V at *
  refine CV.out.mono ?_
  rintro e w1 ⟨rfl, hw1⟩
  have CC := hide (l15Copy_walk u x a n cap os w1 HN.out (HA.out.below hw1 (Nat.le_refl _)) hm)
  have HR1 := hide (HR.out.next hw1)
  have HX1 := hide (HX.out.next hw1)
  have HB1 : Hid (Below w.heap.size w w1) := hide (HB2.out.trans (hw1.mono HB2.out.size))
  have hV1 := hw1.size
  clear hw1 CV k0 k1 k2 HB2 HX HR
  have k0 := HX1.out.cell 0 _ rfl; have k1 := HX1.out.cell 1 _ rfl; have k2 := HX1.out.cell 2 _ rfl
  go_wp2_with fail
  refine CC.out.mono ?_
  rintro e w2 ⟨v, rfl, hO, hw2⟩
  obtain ⟨bz, nz, rfl⟩ := hO.form
  have HR2 := hide (HR1.out.next hw2)
  have HX2 := hide (HX1.out.next hw2)
  have HB3 : Hid (Below w.heap.size w w2) := hide (HB1.out.trans (hw2.mono HB1.out.size))
  have HO := hide hO
  have hBB : w.heap.size + 2 ≤ w1.heap.size + 2 := by omega
  clear hO hw2 CC HB1 HR1 HX1 k0 k1 k2
  have k0 := HX2.out.cell 0 _ rfl; have k1 := HX2.out.cell 1 _ rfl; have k2 := HX2.out.cell 2 _ rfl; have kf := HX2.out.frozen
  go_upto_region 4 with fail
  have HX3 := hide (hv_set (hv_set (hv_set HX2.out 0 (.int .i64 u)) 1 (.int .i64 x)) 2 (.slice bz n nz))
  have HR3 := hide (hv_other (hv_other (hv_other HR2.out (C := w.heap.size) (by omega) 0 (.int .i64 u)) (C := w.heap.size) (by omega) 1 (.int .i64 x)) (C := w.heap.size) (by omega) 2 (.slice bz n nz))
  have hg3 : w2.grownBy (((w2.setCell ⟨w.heap.size, 0, none⟩ (.int .i64 u)).setCell ⟨w.heap.size, 1, none⟩ (.int .i64 x)).setCell ⟨w.heap.size, 2, none⟩ (.slice bz n nz)) (some w.heap.size) := gr_set (gr_set (gr_set (grown_reflp _ _) 0 _) 1 _) 2 _
  have HO3 := hide (row_gr HO.out hg3 (by omega))
  have HB4 := hide (below_gr HB3.out hg3 HB3.out.size (Nat.le_refl _))
  clear k0 k1 k2 kf HX2 HR2 HO HB3 hg3
  generalize ((w2.setCell ⟨w.heap.size, 0, none⟩ (.int .i64 u)).setCell ⟨w.heap.size, 1, none⟩ (.int .i64 x)).setCell ⟨w.heap.size, 2, none⟩ (.slice bz n nz) = W at *
  have hBB2 : w.heap.size + 2 ≤ w1.heap.size + 2 := hBB
  generalize w1.heap.size + 2 = BB at *
  have k0 := HX3.out.cell 0 _ rfl; have k1 := HX3.out.cell 1 _ rfl; have k2 := HX3.out.cell 2 _ rfl
  have r0 := HR3.out.cell 0 _ rfl; have r1 := HR3.out.cell 1 _ rfl; have r2 := HR3.out.cell 2 _ rfl; have rf := HR3.out.frozen
  cases os with
  | nil =>
    have hn0 : n = 0 := by have := HN.out; simpa using this.symm
    subst hn0
    go_wp2_with fail
    exact bodyPost_ret (v := .tuple #[.agg #[.int .i64 u, .int .i64 x, .slice bz 0 nz], .int .i64 0, .int .i64 0]) (by simp [results, Try.results58, go_sem, r0, r1, r2]) rfl ⟨_, by rw [HFN.out]; rfl, by rw [HFL.out]; exact ownP_mono (row_own (row_gr HO3.out (gr_set (gr_set (gr_set (grown_reflp _ _) 0 _) 1 _) 2 _) (by omega)) rfl) (by omega), below_gr HB4.out (gr_set (gr_set (gr_set (grown_reflp _ _) 0 _) 1 _) 2 _) HB4.out.size (Nat.le_succ _)⟩
  | cons q os =>
    have hnp : 0 < n := by rw [← HN.out]; simp
    have hn0 : (n == 0) = false := by rw [beq_eq_false_iff_ne]; omega
    have hn1 : ((n : Int) == 0) = false := by rw [beq_eq_false_iff_ne]; omega
    obtain ⟨g, cp, e, hgB, hgl⟩ := HO3.out.some hnp
    injection e with e1 e2 e3
    subst e1 e3
    obtain ⟨q0, q1, q2⟩ : 0 ≤ q.f0 ∧ q.f0 < q.f1 ∧ q.f1 ≤ 1099511627776 := bOK_piece HOK.out (by simp)
    obtain ⟨x0, x1, x2, x3, x4, x5⟩ := q
    dsimp only at q0 q1 q2
    have c0 : W.cell? ⟨g, 0, none⟩ = some (.int .i64 x0) := HO3.out.at HN.out (i := 0) (j := 0) (by simp) (by omega)
    have c1 : W.cell? ⟨g, 1, none⟩ = some (.int .i64 x1) := HO3.out.at HN.out (i := 0) (j := 1) (by simp) (by omega)
    have c4 : W.cell? ⟨g, 4, none⟩ = some (.bool x4) := HO3.out.at HN.out (i := 0) (j := 4) (by simp) (by omega)
    have c5 : W.cell? ⟨g, 5, none⟩ = some (.bool x5) := HO3.out.at HN.out (i := 0) (j := 5) (by simp) (by omega)
    have cf := row_frozen HO3.out
    cases hw : (!x4 && !x5) with
    | false =>
      have HV : Hid (firstN ((⟨x0, x1, x2, x3, x4, x5⟩ : PieceM) :: os) = 0) := hide (by show (if x4 = false ∧ x5 = false then _ else _) = _; rw [if_neg (by cases x4 <;> cases x5 <;> simp_all)])
      have HL2 : Hid (firstL ((⟨x0, x1, x2, x3, x4, x5⟩ : PieceM) :: os) = (⟨x0, x1, x2, x3, x4, x5⟩ : PieceM) :: os) := hide (by show (if x4 = false ∧ x5 = false then _ else _) :: _ = _; rw [if_neg (by cases x4 <;> cases x5 <;> simp_all)])
      replace HFN := hide (HFN.out.trans HV.out)
      replace HFL := hide (HFL.out.trans HL2.out)
      clear HV HL2
      have HFin := hide (fun (W' : World) (hg : W.grownBy W' (some (w.heap.size + 1))) => (⟨ownP_mono (row_own (row_gr HO3.out hg (by omega)) HN.out) (by omega), below_gr HB4.out hg HB4.out.size (Nat.le_succ _)⟩ : OwnP W' w.heap.size _ _ ∧ Below w.heap.size w W'))
      cases x4 with
      | true =>
        clear hw
        go_wp2_with fail
        exact bodyPost_ret (v := .tuple #[.agg #[.int .i64 u, .int .i64 x, .slice (some ⟨g, 0, none⟩) n nz], .int .i64 0, .int .i64 0]) (by simp [results, Try.results58, go_sem, r0, r1, r2]) rfl ⟨_, by rw [HFN.out], by rw [HFL.out]; exact (HFin.out _ (gr_set (gr_set (gr_set (grown_reflp _ _) 0 _) 1 _) 2 _)).1, (HFin.out _ (gr_set (gr_set (gr_set (grown_reflp _ _) 0 _) 1 _) 2 _)).2⟩
      | false =>
        have h5 : x5 = true := by cases x5 <;> simp_all
        subst h5
        clear hw
        go_wp2_with fail
        exact bodyPost_ret (v := .tuple #[.agg #[.int .i64 u, .int .i64 x, .slice (some ⟨g, 0, none⟩) n nz], .int .i64 0, .int .i64 0]) (by simp [results, Try.results58, go_sem, r0, r1, r2]) rfl ⟨_, by rw [HFN.out], by rw [HFL.out]; exact (HFin.out _ (gr_set (gr_set (gr_set (grown_reflp _ _) 0 _) 1 _) 2 _)).1, (HFin.out _ (gr_set (gr_set (gr_set (grown_reflp _ _) 0 _) 1 _) 2 _)).2⟩
    | true =>
      have HV : Hid (firstN ((⟨x0, x1, x2, x3, x4, x5⟩ : PieceM) :: os) = x1 - x0) := hide (by show (if x4 = false ∧ x5 = false then _ else _) = _; rw [if_pos (by cases x4 <;> cases x5 <;> simp_all)])
      have HL2 : Hid (firstL ((⟨x0, x1, x2, x3, x4, x5⟩ : PieceM) :: os) = (⟨x0, x1, x2, x3, false, true⟩ : PieceM) :: os) := hide (by show (if x4 = false ∧ x5 = false then _ else _) :: _ = _; rw [if_pos (by cases x4 <;> cases x5 <;> simp_all)]; rfl)
      have h4 : x4 = false := by cases x4 <;> simp_all
      have h5 : x5 = false := by cases x5 <;> simp_all
      subst h4 h5
      clear hw
      replace HFN := hide (HFN.out.trans HV.out)
      replace HFL := hide (HFL.out.trans HL2.out)
      clear HV HL2
      go_upto_region 7 with fail
      have o1 : RowP (W.setCell ⟨g, 5, none⟩ (.bool true)) BB (.slice (some ⟨g, 0, none⟩) n nz) n ((⟨x0, x1, x2, x3, false, true⟩ : PieceM) :: os) := HO3.out.put (i := 0) (j := 5) (by simp) (by omega) (.bool true) ⟨x0, x1, x2, x3, false, true⟩ rfl
      have HO4 := hide o1
      have HX4 := hide (hv_other HX3.out (C := g) (by omega) 5 (.bool true))
      have HR4 := hide (hv_other HR3.out (C := g) (by omega) 5 (.bool true))
      have HB5 := hide (HB4.out.setCell (p := ⟨g, 5, none⟩) (by show w.heap.size ≤ g; omega) (.bool true))
      clear o1 c0 c1 c4 c5 cf k0 k1 k2 r0 r1 r2 rf HO3 HX3 HR3 HB4
      generalize W.setCell ⟨g, 5, none⟩ (.bool true) = W2 at *
      have HS := hide (show S7f w W2 BB g n nz u x ((⟨x0, x1, x2, x3, false, true⟩ : PieceM) :: os) from ⟨HB5.out, HX4.out, .inl HR4.out, HO4.out⟩)
      clear HB5 HX4 HR4 HO4
      refine wp_region_last2 (fun W W' => W.grownBy W' (some (w.heap.size + 1)) ∧ (HoldV W (w.heap.size + 1) #[.int .i64 u, .int .i64 x, .slice (some ⟨g, 0, none⟩) n nz] 29 → HoldV W' (w.heap.size + 1) #[.int .i64 u, .int .i64 x, .slice (some ⟨g, 0, none⟩) n nz] 29)) (fun W => S7f w W BB g n nz u x ((⟨x0, x1, x2, x3, false, true⟩ : PieceM) :: os)) (A7f w.heap.size g n nz u x x0 x1) _ rfl (by kernel_rfl) (by kernel_rfl) (by kernel_rfl) (by kernel_rfl) A7f_kept ⟨HS.out.bel.drew, HS.out.box, HS.out.res, HS.out.row.next ((Below.refl _ _).drew)⟩ ?_ ?_
      · clear HS
        refine EachBut.one _ _ _ ?_ ?_
        · intro v W hB hp KK hKK
          rw [if_pos (by rfl)]
          have hp1 : AllOf (A7f w.heap.size g n nz u x x0 x1) v W [] := hp
          clear hp
          simp only [putAll, Act.put, List.setIfInBounds_toArray, List.set_cons_zero, List.set_cons_succ, Nat.reduceAdd] at hKK ⊢
          have k0 := hB.box.cell 0 _ rfl; have k1 := hB.box.cell 1 _ rfl; have k2 := hB.box.cell 2 _ rfl
          clear hp1
          go_simp
          refine hKK _ _ ⟨grown_reflp _ _, id⟩ hB ?_
          rfl
        refine EachBut.one _ _ _ ?_ ?_
        · intro v W hB hp KK hKK
          rw [if_pos (by rfl)]
          have hp1 : AllOf (A7f w.heap.size g n nz u x x0 x1) v W [] := hp
          clear hp
          simp only [putAll, Act.put, List.setIfInBounds_toArray, List.set_cons_zero, List.set_cons_succ, Nat.reduceAdd] at hKK ⊢
          clear hp1
          go_simp
          refine hKK _ _ ⟨grown_reflp _ _, id⟩ hB ?_
          rfl
        refine EachBut.one _ _ _ ?_ ?_
        · intro v W hB hp KK hKK
          rw [if_pos (by rfl)]
          have hp1 : AllOf (A7f w.heap.size g n nz u x x0 x1) v W [1] := hp
          clear hp
          simp only [putAll, Act.put, List.setIfInBounds_toArray, List.set_cons_zero, List.set_cons_succ, Nat.reduceAdd] at hKK ⊢
          have e1 : v 1 = .pointer (some ⟨w.heap.size, 2, none⟩) := hp1.1
          have k2 := hB.box.cell 2 _ rfl
          simp only [e1] at hKK ⊢
          clear e1
          clear hp1
          go_simp
          refine hKK _ _ ⟨grown_reflp _ _, id⟩ hB ?_
          rfl
        refine EachBut.one _ _ _ ?_ ?_
        · intro v W hB hp KK hKK
          rw [if_pos (by rfl)]
          have hp1 : AllOf (A7f w.heap.size g n nz u x x0 x1) v W [2] := hp
          clear hp
          simp only [putAll, Act.put, List.setIfInBounds_toArray, List.set_cons_zero, List.set_cons_succ, Nat.reduceAdd] at hKK ⊢
          have e2 : v 2 = .slice (some ⟨g, 0, none⟩) n nz := hp1.1
          have hnn : (0 : Int) < (n : Int) := by omega
          simp only [e2] at hKK ⊢
          clear e2
          clear hp1
          go_simp
          refine hKK _ _ ⟨grown_reflp _ _, id⟩ hB ?_
          rfl
        refine EachBut.one _ _ _ ?_ ?_
        · intro v W hB hp KK hKK
          rw [if_pos (by rfl)]
          have hp1 : AllOf (A7f w.heap.size g n nz u x x0 x1) v W [3] := hp
          clear hp
          simp only [putAll, Act.put, List.setIfInBounds_toArray, List.set_cons_zero, List.set_cons_succ, Nat.reduceAdd] at hKK ⊢
          have e3 : v 3 = .pointer (some ⟨g, 0, none⟩) := hp1.1
          simp only [e3] at hKK ⊢
          clear e3
          clear hp1
          go_simp
          refine hKK _ _ ⟨grown_reflp _ _, id⟩ hB ?_
          rfl
        refine EachBut.one _ _ _ ?_ ?_
        · intro v W hB hp KK hKK
          rw [if_pos (by rfl)]
          have hp1 : AllOf (A7f w.heap.size g n nz u x x0 x1) v W [4] := hp
          clear hp
          simp only [putAll, Act.put, List.setIfInBounds_toArray, List.set_cons_zero, List.set_cons_succ, Nat.reduceAdd] at hKK ⊢
          have e4 : v 4 = .pointer (some ⟨g, 1, none⟩) := hp1.1
          have c1 : W.cell? ⟨g, 1, none⟩ = some (.int .i64 x1) := hB.row.at HN.out (i := 0) (j := 1) (by simp) (by omega)
          simp only [e4] at hKK ⊢
          clear e4
          clear hp1
          go_simp
          refine hKK _ _ ⟨grown_reflp _ _, id⟩ hB ?_
          rfl
        refine EachBut.one _ _ _ ?_ ?_
        · intro v W hB hp KK hKK
          rw [if_pos (by rfl)]
          have hp1 : AllOf (A7f w.heap.size g n nz u x x0 x1) v W [] := hp
          clear hp
          simp only [putAll, Act.put, List.setIfInBounds_toArray, List.set_cons_zero, List.set_cons_succ, Nat.reduceAdd] at hKK ⊢
          clear hp1
          go_simp
          refine hKK _ _ ⟨grown_reflp _ _, id⟩ hB ?_
          rfl
        refine EachBut.one _ _ _ ?_ ?_
        · intro v W hB hp KK hKK
          rw [if_pos (by rfl)]
          have hp1 : AllOf (A7f w.heap.size g n nz u x x0 x1) v W [6] := hp
          clear hp
          simp only [putAll, Act.put, List.setIfInBounds_toArray, List.set_cons_zero, List.set_cons_succ, Nat.reduceAdd] at hKK ⊢
          have e6 : v 6 = .pointer (some ⟨w.heap.size, 2, none⟩) := hp1.1
          have k2 := hB.box.cell 2 _ rfl
          simp only [e6] at hKK ⊢
          clear e6
          clear hp1
          go_simp
          refine hKK _ _ ⟨grown_reflp _ _, id⟩ hB ?_
          rfl
        refine EachBut.one _ _ _ ?_ ?_
        · intro v W hB hp KK hKK
          rw [if_pos (by rfl)]
          have hp1 : AllOf (A7f w.heap.size g n nz u x x0 x1) v W [7] := hp
          clear hp
          simp only [putAll, Act.put, List.setIfInBounds_toArray, List.set_cons_zero, List.set_cons_succ, Nat.reduceAdd] at hKK ⊢
          have e7 : v 7 = .slice (some ⟨g, 0, none⟩) n nz := hp1.1
          have hnn : (0 : Int) < (n : Int) := by omega
          simp only [e7] at hKK ⊢
          clear e7
          clear hp1
          go_simp
          refine hKK _ _ ⟨grown_reflp _ _, id⟩ hB ?_
          rfl
        refine EachBut.one _ _ _ ?_ ?_
        · intro v W hB hp KK hKK
          rw [if_pos (by rfl)]
          have hp1 : AllOf (A7f w.heap.size g n nz u x x0 x1) v W [8] := hp
          clear hp
          simp only [putAll, Act.put, List.setIfInBounds_toArray, List.set_cons_zero, List.set_cons_succ, Nat.reduceAdd] at hKK ⊢
          have e8 : v 8 = .pointer (some ⟨g, 0, none⟩) := hp1.1
          simp only [e8] at hKK ⊢
          clear e8
          clear hp1
          go_simp
          refine hKK _ _ ⟨grown_reflp _ _, id⟩ hB ?_
          rfl
        refine EachBut.one _ _ _ ?_ ?_
        · intro v W hB hp KK hKK
          rw [if_pos (by rfl)]
          have hp1 : AllOf (A7f w.heap.size g n nz u x x0 x1) v W [9] := hp
          clear hp
          simp only [putAll, Act.put, List.setIfInBounds_toArray, List.set_cons_zero, List.set_cons_succ, Nat.reduceAdd] at hKK ⊢
          have e9 : v 9 = .pointer (some ⟨g, 0, none⟩) := hp1.1
          have c0 : W.cell? ⟨g, 0, none⟩ = some (.int .i64 x0) := hB.row.at HN.out (i := 0) (j := 0) (by simp) (by omega)
          simp only [e9] at hKK ⊢
          clear e9
          clear hp1
          go_simp
          refine hKK _ _ ⟨grown_reflp _ _, id⟩ hB ?_
          rfl
        refine EachBut.one _ _ _ ?_ ?_
        · intro v W hB hp KK hKK
          rw [if_pos (by rfl)]
          have hp1 : AllOf (A7f w.heap.size g n nz u x x0 x1) v W [5, 10] := hp
          clear hp
          simp only [putAll, Act.put, List.setIfInBounds_toArray, List.set_cons_zero, List.set_cons_succ, Nat.reduceAdd] at hKK ⊢
          have e5 : v 5 = .int .i64 x1 := hp1.1
          have e10 : v 10 = .int .i64 x0 := hp1.2.1
          simp only [e5, e10] at hKK ⊢
          clear e5 e10
          clear hp1
          have hw : IntKind.i64.wrap (x1 - x0) = x1 - x0 := by rw [IntKind.wrap_i64]; omega
          go_simp
          refine hKK _ _ ⟨grown_reflp _ _, id⟩ hB ?_
          first | rfl | exact congrArg (Value.int .i64) hw
        refine EachBut.one _ _ _ ?_ ?_
        · intro v W hB hp KK hKK
          rw [if_pos (by rfl)]
          have hp1 : AllOf (A7f w.heap.size g n nz u x x0 x1) v W [0, 0] := hp
          clear hp
          simp only [putAll, Act.put, List.setIfInBounds_toArray, List.set_cons_zero, List.set_cons_succ, Nat.reduceAdd] at hKK ⊢
          have e0 : v 0 = .agg #[.int .i64 u, .int .i64 x, .slice (some ⟨g, 0, none⟩) n nz] := hp1.1
          simp only [e0] at hKK ⊢
          clear e0
          clear hp1
          have hg3 : W.grownBy (((W.setCell ⟨w.heap.size + 1, 0, none⟩ (.int .i64 u)).setCell ⟨w.heap.size + 1, 1, none⟩ (.int .i64 x)).setCell ⟨w.heap.size + 1, 2, none⟩ (.slice (some ⟨g, 0, none⟩) n nz)) (some (w.heap.size + 1)) := gr_set (gr_set (gr_set (grown_reflp _ _) 0 _) 1 _) 2 _
          have HB6 : Hid (S7f w (((W.setCell ⟨w.heap.size + 1, 0, none⟩ (.int .i64 u)).setCell ⟨w.heap.size + 1, 1, none⟩ (.int .i64 x)).setCell ⟨w.heap.size + 1, 2, none⟩ (.slice (some ⟨g, 0, none⟩) n nz)) BB g n nz u x ((⟨x0, x1, x2, x3, false, true⟩ : PieceM) :: os) ∧ HoldV (((W.setCell ⟨w.heap.size + 1, 0, none⟩ (.int .i64 u)).setCell ⟨w.heap.size + 1, 1, none⟩ (.int .i64 x)).setCell ⟨w.heap.size + 1, 2, none⟩ (.slice (some ⟨g, 0, none⟩) n nz)) (w.heap.size + 1) #[.int .i64 u, .int .i64 x, .slice (some ⟨g, 0, none⟩) n nz] 29) := hide (by
            have hh : HoldV (((W.setCell ⟨w.heap.size + 1, 0, none⟩ (.int .i64 u)).setCell ⟨w.heap.size + 1, 1, none⟩ (.int .i64 x)).setCell ⟨w.heap.size + 1, 2, none⟩ (.slice (some ⟨g, 0, none⟩) n nz)) (w.heap.size + 1) #[.int .i64 u, .int .i64 x, .slice (some ⟨g, 0, none⟩) n nz] 29 := by
              rcases hB.res with h | h <;> exact hv_set (hv_set (hv_set h 0 _) 1 _) 2 _
            exact ⟨⟨below_gr hB.bel hg3 hB.bel.size (Nat.le_succ _), hv_gr hB.box hg3 (by omega), .inr hh, row_gr hB.row hg3 (by omega)⟩, hh⟩)
          have HG := hide hg3
          clear hg3
          rcases hB.res with h | h
          all_goals
            have r0 := h.cell 0 _ rfl; have r1 := h.cell 1 _ rfl; have r2 := h.cell 2 _ rfl; have rf := h.frozen
            clear hB h
            go_simp
            exact hKK undef _ ⟨HG.out, fun _ => HB6.out.2⟩ HB6.out.1 HB6.out.2
        refine EachBut.one _ _ _ ?_ ?_
        · intro v W hB hp KK hKK
          rw [if_pos (by rfl)]
          have hp1 : AllOf (A7f w.heap.size g n nz u x x0 x1) v W [11, 12, 0, 1, 2, 3, 4, 5, 6, 7, 8, 9, 10, 11, 12] := hp
          clear hp
          simp only [putAll, Act.put, List.setIfInBounds_toArray, List.set_cons_zero, List.set_cons_succ, Nat.reduceAdd] at hKK ⊢
          have e11 : v 11 = .int .i64 (x1 - x0) := hp1.1
          simp only [e11] at hKK ⊢
          clear e11
          clear hp1
          go_simp
          refine hKK _ _ ⟨grown_reflp _ _, id⟩ hB ?_
          rfl
        · exact trivial
      intro v W hB hA KK hKK
      rw [if_pos (by rfl)]
      simp only [putAll, Act.put, List.setIfInBounds_toArray, List.set_cons_zero, List.set_cons_succ, Nat.reduceAdd]
      have p0 : (A7f w.heap.size g n nz u x x0 x1) 0 (v 0) W := hA 0 (by decide)
      have p1 : (A7f w.heap.size g n nz u x x0 x1) 1 (v 1) W := hA 1 (by decide)
      have p2 : (A7f w.heap.size g n nz u x x0 x1) 2 (v 2) W := hA 2 (by decide)
      have p3 : (A7f w.heap.size g n nz u x x0 x1) 3 (v 3) W := hA 3 (by decide)
      have p4 : (A7f w.heap.size g n nz u x x0 x1) 4 (v 4) W := hA 4 (by decide)
      have p5 : (A7f w.heap.size g n nz u x x0 x1) 5 (v 5) W := hA 5 (by decide)
      have p6 : (A7f w.heap.size g n nz u x x0 x1) 6 (v 6) W := hA 6 (by decide)
      have p7 : (A7f w.heap.size g n nz u x x0 x1) 7 (v 7) W := hA 7 (by decide)
      have p8 : (A7f w.heap.size g n nz u x x0 x1) 8 (v 8) W := hA 8 (by decide)
      have p9 : (A7f w.heap.size g n nz u x x0 x1) 9 (v 9) W := hA 9 (by decide)
      have p10 : (A7f w.heap.size g n nz u x x0 x1) 10 (v 10) W := hA 10 (by decide)
      have p11 : (A7f w.heap.size g n nz u x x0 x1) 11 (v 11) W := hA 11 (by decide)
      have p12 : (A7f w.heap.size g n nz u x x0 x1) 12 (v 12) W := hA 12 (by decide)
      have p13 : (A7f w.heap.size g n nz u x x0 x1) 13 (v 13) W := hA 13 (by decide)
      clear hA
      have e0 : v 0 = .agg #[.int .i64 u, .int .i64 x, .slice (some ⟨g, 0, none⟩) n nz] := p0
      have e1 : v 1 = .pointer (some ⟨w.heap.size, 2, none⟩) := p1
      have e2 : v 2 = .slice (some ⟨g, 0, none⟩) n nz := p2
      have e3 : v 3 = .pointer (some ⟨g, 0, none⟩) := p3
      have e4 : v 4 = .pointer (some ⟨g, 1, none⟩) := p4
      have e5 : v 5 = .int .i64 x1 := p5
      have e6 : v 6 = .pointer (some ⟨w.heap.size, 2, none⟩) := p6
      have e7 : v 7 = .slice (some ⟨g, 0, none⟩) n nz := p7
      have e8 : v 8 = .pointer (some ⟨g, 0, none⟩) := p8
      have e9 : v 9 = .pointer (some ⟨g, 0, none⟩) := p9
      have e10 : v 10 = .int .i64 x0 := p10
      have e11 : v 11 = .int .i64 (x1 - x0) := p11
      have e13 : v 13 = .int .i64 (x1 - x0) := p13
      simp only [e0, e1, e2, e3, e4, e5, e6, e7, e8, e9, e10, e11, e13]
      clear e0 e1 e2 e3 e4 e5 e6 e7 e8 e9 e10 e11 e13 p0 p1 p2 p3 p4 p5 p6 p7 p8 p9 p10 p11 p13
      have r0 := p12.cell 0 _ rfl; have r1 := p12.cell 1 _ rfl; have r2 := p12.cell 2 _ rfl
      have HFF : Hid (OwnP W w.heap.size (.slice (some ⟨g, 0, none⟩) n nz) ((⟨x0, x1, x2, x3, false, true⟩ : PieceM) :: os) ∧ Below w.heap.size w W) := hide ⟨ownP_mono (row_own hB.row HN.out) (by omega), hB.bel⟩
      clear hB p12
      go_simp
      refine hKK _ _ ?_
      clear hKK KK
      go_wp2_with fail
      exact bodyPost_ret (v := .tuple #[.agg #[.int .i64 u, .int .i64 x, .slice (some ⟨g, 0, none⟩) n nz], .int .i64 (x1 - x0), .int .i64 0]) (by simp [results, Try.results58, go_sem, r0, r1, r2]) rfl ⟨_, by rw [HFN.out], by rw [HFL.out]; exact HFF.out.1, HFF.out.2⟩
set_option maxRecDepth 100000
/-- A piece that is sent again. -/
def againP (t : Int) (o : PieceM) : PieceM := ⟨o.f0, o.f1, t, min (o.f3 + 1) 1000000, o.f4, false⟩
def againL (t : Int) : List PieceM → List PieceM
  | [] => []
  | o :: r => if o.f5 = true then againP t o :: r else o :: againL t r
def againQ (t : Int) : List PieceM → Option PieceM
  | [] => none
  | o :: r => if o.f5 = true then some (againP t o) else againQ t r
theorem again_split (t : Int) : ∀ (os : List PieceM), (againQ t os = none ∧ ∀ o ∈ os, o.f5 = false) ∨ ∃ a q b, os = a ++ q :: b ∧ q.f5 = true ∧ (∀ o ∈ a, o.f5 = false) ∧ againQ t os = some (againP t q) ∧ againL t os = a ++ againP t q :: b
  | [] => .inl ⟨rfl, fun o h => by cases h⟩
  | o :: r => by
    by_cases h : o.f5 = true
    · exact .inr ⟨[], o, r, rfl, h, fun _ h => (by cases h), by unfold againQ; rw [if_pos h], by unfold againL; rw [if_pos h]; rfl⟩
    · have h0 : o.f5 = false := by cases hh : o.f5 <;> simp_all
      have e1 : againQ t (o :: r) = againQ t r := by show (if _ then _ else _) = _; rw [if_neg h]
      have e2 : againL t (o :: r) = o :: againL t r := by show (if _ then _ else _) = _; rw [if_neg h]
      rcases again_split t r with ⟨h1, h2⟩ | ⟨a, q, b, h1, h2, h3, h4, h5⟩
      · refine .inl ⟨by rw [e1]; exact h1, fun p hp => ?_⟩
        rcases List.mem_cons.1 hp with rfl | hp
        · exact h0
        · exact h2 p hp
      · refine .inr ⟨o :: a, q, b, by rw [h1]; rfl, h2, fun p hp => ?_, by rw [e1]; exact h4, by rw [e2, h5]; rfl⟩
        rcases List.mem_cons.1 hp with rfl | hp
        · exact h0
        · exact h3 p hp
set_option maxHeartbeats 8000000 in
theorem lostFrom_walk (B L : Nat) (u x : Int) (ns xs zs : List (Nat × PieceM)) (p : Option Nat) (w : World) (h : DL w B L u x ns) (hns : ns = xs ++ zs) (hxs : ∀ q ∈ xs, q.2.f5 = false) (hz : (zs = [] ∧ p = none) ∨ ∃ c q ys, zs = (c, q) :: ys ∧ p = some c ∧ q.f5 = true) :
    Calls Try.prog 51 #[ptO (fstO ns none)] w fun e w' => e = .returned (ptO p) ∧ w' = w := by
  have HD := hide h; have HNS := hide hns; have HXS := hide hxs; have HZ := hide hz
  have HLN := hide h.nd
  clear h hns hxs hz
  go_enter Try.func51, Try.ntmps51
  go_wp2_with fail
  go_loopw [0] (fun t w2 => ∃ es bs : List (Nat × PieceM), Hid (xs = es ++ bs) ∧ t = ptO (fstO (bs ++ zs) none) ∧ w2 = w) (fun t _ => posOf (bks ns) t)
  case atStart => exact ⟨[], xs, hide rfl, by rw [HNS.out], rfl⟩
  case round =>
    obtain ⟨es, bs, HAB, rfl, rfl⟩ := hrel
    cases bs with
    | nil =>
      rw [List.nil_append]
      rcases HZ.out with ⟨h1, h2⟩ | ⟨c, q, ys, h1, h2, h3⟩
      · subst h1 h2
        clear HZ
        simp only [show ptO (fstO ([] : List (Nat × PieceM)) none) = Value.pointer none from rfl]
        go_wp2_with fail
        go_ret
        exact ⟨rfl, rfl⟩
      · subst h1 h2
        have hC : HoldV wr c (lpV q (lstO none xs) (fstO ys none)) lpT := DL.at (by have := HD.out; rw [HNS.out] at this; exact this)
        obtain ⟨x0, x1, x2, x3, x4, x5⟩ := q
        have h3' : x5 = true := h3
        subst h3'
        have c5 : wr.cell? ⟨c, 5, none⟩ = some (.bool true) := hC.cell 5 _ rfl
        clear hC h3 HZ
        simp only [show ∀ q : PieceM, ptO (fstO ((c, q) :: ys) none) = Value.pointer (some ⟨c, 0, none⟩) from fun _ => rfl]
        go_wp2_with fail
        go_ret
        exact ⟨rfl, rfl⟩
    | cons b bs =>
      obtain ⟨c, q⟩ := b
      have HE : Hid (ns = es ++ ((c, q) :: (bs ++ zs))) := hide (by rw [HNS.out, HAB.out]; simp)
      have HE2 : Hid (ns = (es ++ [(c, q)]) ++ (bs ++ zs)) := hide (by rw [HNS.out, HAB.out]; simp)
      have HAB2 : Hid (xs = (es ++ [(c, q)]) ++ bs) := hide (by rw [HAB.out]; simp)
      have HP1 : Hid (posOf (bks ns) (.pointer (some ⟨c, 0, none⟩)) = (bs ++ zs).length + 1) := hide (by rw [HE.out]; exact pos_at (ys := (c, q) :: (bs ++ zs)) (by rw [← HE.out]; exact HLN.out))
      have HP2 : Hid (posOf (bks ns) (ptO (fstO (bs ++ zs) none)) = (bs ++ zs).length) := hide (by rw [HE2.out]; exact pos_at (by rw [← HE2.out]; exact HLN.out))
      have hC : HoldV wr c (lpV q (lstO none es) (fstO (bs ++ zs) none)) lpT := DL.at (by have := HD.out; rw [HE.out] at this; exact this)
      have h5 : q.f5 = false := HXS.out (c, q) (by rw [HAB.out]; simp)
      obtain ⟨x0, x1, x2, x3, x4, x5⟩ := q
      have h5' : x5 = false := h5
      subst h5'
      have c5 : wr.cell? ⟨c, 5, none⟩ = some (.bool false) := hC.cell 5 _ rfl
      have c7 := hC.cell 7 _ rfl
      clear hC h5 HZ
      rw [List.cons_append]
      simp only [show ∀ (q : PieceM) (ys : List (Nat × PieceM)), ptO (fstO ((c, q) :: ys) none) = Value.pointer (some ⟨c, 0, none⟩) from fun _ _ => rfl]
      go_wp2_with fail
      exact ⟨⟨_, bs, HAB2, rfl, (by first | rfl | trivial)⟩, by rw [HP1.out, HP2.out]; omega⟩
set_option maxHeartbeats 1000000 in
theorem firstLost_walk (B L : Nat) (u x : Int) (ns xs zs : List (Nat × PieceM)) (p : Option Nat) (w : World) (h : DL w B L u x ns) (hns : ns = xs ++ zs) (hxs : ∀ q ∈ xs, q.2.f5 = false) (hz : (zs = [] ∧ p = none) ∨ ∃ c q ys, zs = (c, q) :: ys ∧ p = some c ∧ q.f5 = true) :
    Calls Try.prog 33 #[.pointer (some ⟨L, 0, none⟩)] w fun e w' => e = .returned (ptO p) ∧ w' = w := by
  have CF := hide (lostFrom_walk B L u x ns xs zs p w h hns hxs hz)
  have l3 := h.head.cell 3 _ rfl
  clear h hns hxs hz
  go_enter Try.func33, Try.ntmps33
  go_wp2_with fail
  refine CF.out.mono ?_
  rintro e w1 ⟨rfl, rfl⟩
  go_wp2_with fail
  go_ret
  exact ⟨rfl, rfl⟩
set_option maxHeartbeats 4000000 in
theorem markAgain_walk (c : Nat) (q : PieceM) (pv nx : Option Nat) (t : Int) (w : World) (h : HoldV w c (lpV q pv nx) lpT) (h0 : 1 ≤ q.f3) (h1 : q.f3 ≤ 1000000) :
    Calls Try.prog 34 #[.pointer (some ⟨c, 0, none⟩), .int .i64 t] w fun e w' => e = .returned (.tuple #[]) ∧ HoldV w' c (lpV (againP t q) pv nx) lpT ∧ w.grownBy w' (some c) := by
  obtain ⟨x0, x1, x2, x3, x4, x5⟩ := q
  have h0' : 1 ≤ x3 := h0
  have h1' : x3 ≤ 1000000 := h1
  have c5 := h.cell 5 _ rfl; have c2 := h.cell 2 _ rfl; have c3 := h.cell 3 _ rfl; have cf := h.frozen
  have HC2 : Hid (HoldV (((w.setCell ⟨c, 5, none⟩ (.bool false)).setCell ⟨c, 2, none⟩ (.int .i64 t)).setCell ⟨c, 3, none⟩ (.int .i64 (min (x3 + 1) 1000000))) c (lpV ⟨x0, x1, t, min (x3 + 1) 1000000, x4, false⟩ pv nx) lpT) := hide (hv_set (hv_set (hv_set h 5 _) 2 _) 3 _)
  have HG : Hid (w.grownBy (((w.setCell ⟨c, 5, none⟩ (.bool false)).setCell ⟨c, 2, none⟩ (.int .i64 t)).setCell ⟨c, 3, none⟩ (.int .i64 (min (x3 + 1) 1000000))) (some c)) := hide (gr_set (gr_set (gr_set (grown_reflp _ _) 5 _) 2 _) 3 _)
  clear h h0 h1
  go_enter Try.func34, Try.ntmps34
  go_wp2_with fail
  go_end0
  exact ⟨rfl, HC2.out, HG.out⟩
set_option maxRecDepth 100000
/-- What is wanted of BoardAgain. -/
def BoardAgainP (f : Nat) (Pre : World → Prop) (x0_0 : Int) (x0_1 : Int) (z0_0 : List PieceM) (m1 : Int) (y0_0 : Int) (y0_1 : Int) (L0_0 : List PieceM) (y1_0 : Int) (y1_1 : Int) (y1_2 : Int) (y1_3 : Int) (y1_4 : Bool) (y1_5 : Bool) (C2 : Int) : Prop :=
  ∀ (a0_0 : Option Addr) (n0_0 c0_0 : Nat) (W : World), z0_0.length = n0_0 → ArrP W a0_0 (z0_0.flatMap valPiece) → n0_0 ≤ c0_0 → n0_0 ≤ 1048576 → Pre W → Calls Try.prog f #[.agg #[.int .i64 x0_0, .int .i64 x0_1, .slice a0_0 n0_0 c0_0], .int .i64 m1] W fun e w' => ∃ v0_0 : Value, e = .returned (.tuple #[.agg #[.int .i64 y0_0, .int .i64 y0_1, v0_0], .agg #[.int .i64 y1_0, .int .i64 y1_1, .int .i64 y1_2, .int .i64 y1_3, .bool y1_4, .bool y1_5], .int .i64 C2]) ∧ OwnP w' W.heap.size v0_0 L0_0 ∧ Below W.heap.size W w'
set_option maxRecDepth 100000
theorem row_put6 {W : World} {BB g n cap : Nat} {os : List PieceM} (h : RowP W BB (.slice (some ⟨g, 0, none⟩) n cap) n os) {i : Nat} (hi : i < os.length) (q : PieceM) : RowP ((((((W.setCell ⟨g, i * 6, none⟩ (.int .i64 q.f0)).setCell ⟨g, i * 6 + 1, none⟩ (.int .i64 q.f1)).setCell ⟨g, i * 6 + 2, none⟩ (.int .i64 q.f2)).setCell ⟨g, i * 6 + 3, none⟩ (.int .i64 q.f3)).setCell ⟨g, i * 6 + 4, none⟩ (.bool q.f4)).setCell ⟨g, i * 6 + 5, none⟩ (.bool q.f5)) BB (.slice (some ⟨g, 0, none⟩) n cap) n (os.set i q) := by
  have h0 := h.put hi (j := 0) (by omega) (.int .i64 q.f0) ⟨q.f0, os[i].f1, os[i].f2, os[i].f3, os[i].f4, os[i].f5⟩ rfl
  have h1 := h0.put (i := i) (j := 1) (by rw [List.length_set]; exact hi) (by omega) (.int .i64 q.f1) ⟨q.f0, q.f1, os[i].f2, os[i].f3, os[i].f4, os[i].f5⟩ (by rw [List.getElem_set_self]; rfl)
  rw [List.set_set] at h1
  have h2 := h1.put (i := i) (j := 2) (by rw [List.length_set]; exact hi) (by omega) (.int .i64 q.f2) ⟨q.f0, q.f1, q.f2, os[i].f3, os[i].f4, os[i].f5⟩ (by rw [List.getElem_set_self]; rfl)
  rw [List.set_set] at h2
  have h3 := h2.put (i := i) (j := 3) (by rw [List.length_set]; exact hi) (by omega) (.int .i64 q.f3) ⟨q.f0, q.f1, q.f2, q.f3, os[i].f4, os[i].f5⟩ (by rw [List.getElem_set_self]; rfl)
  rw [List.set_set] at h3
  have h4 := h3.put (i := i) (j := 4) (by rw [List.length_set]; exact hi) (by omega) (.bool q.f4) ⟨q.f0, q.f1, q.f2, q.f3, q.f4, os[i].f5⟩ (by rw [List.getElem_set_self]; rfl)
  rw [List.set_set] at h4
  have h5 := h4.put (i := i) (j := 5) (by rw [List.length_set]; exact hi) (by omega) (.bool q.f5) q (by rw [List.getElem_set_self]; rfl)
  rw [List.set_set] at h5
  rw [Nat.add_zero] at h5
  exact h5
set_option maxHeartbeats 8000000 in
theorem specAgain_none {u x : Int} {os : List PieceM} (t : Int) (hok : bOK u x os) (ht : 0 ≤ t ∧ t ≤ 1000000000) (hno : ∀ o ∈ os, o.f5 = false) : BoardAgainP 60 (fun _ => True) u x os t 0 0 [] 0 0 0 0 false false 13 := by
  intro a n cap w hn ha hc hm _
  obtain ⟨hb2, hX, hR, hQ⟩ := three_boxes w #[.int .i64 u, .int .i64 x, .slice a n cap] #[.int .i64 0, .int .i64 0, .slice none 0 0] #[.int .i64 0, .int .i64 0, .int .i64 0, .int .i64 0, .bool false, .bool false] 29 29 48
  have HB2 := hide hb2; have HX := hide hX; have HR := hide hR; have HQ := hide hQ
  have k0 := hX.cell 0 _ rfl; have k1 := hX.cell 1 _ rfl; have k2 := hX.cell 2 _ rfl
  have hV : w.heap.size + 2 < (((w.alloc (.cells #[.int .i64 u, .int .i64 x, .slice a n cap] 29)).alloc (.cells #[.int .i64 0, .int .i64 0, .slice none 0 0] 29)).alloc (.cells #[.int .i64 0, .int .i64 0, .int .i64 0, .int .i64 0, .bool false, .bool false] 48)).heap.size := hQ.lt
  have HN := hide hn
  have HA := hide (ha.below hb2 (Nat.le_refl _))
  have CV := hide (l15OK_walk u x a n cap os (((w.alloc (.cells #[.int .i64 u, .int .i64 x, .slice a n cap] 29)).alloc (.cells #[.int .i64 0, .int .i64 0, .slice none 0 0] 29)).alloc (.cells #[.int .i64 0, .int .i64 0, .int .i64 0, .int .i64 0, .bool false, .bool false] 48)) hn (ha.below hb2 (Nat.le_refl _)) hm)
  rw [bokB_yes hok] at CV
  have HOK := hide hok
  have h1 : inB t 0 1000000000 = true := inB_iff.2 ht
  have HNO := hide hno
  have HLT : Hid (n ≤ n) := hide (Nat.le_refl _)
  clear ht hno
  clear hn ha hok hb2 hX hR hQ
  go_enter Try.func60, Try.ntmps60
  go_wp2_with fail
  generalize ((w.alloc (.cells #[.int .i64 u, .int .i64 x, .slice a n cap] 29)).alloc (.cells #[.int .i64 0, .int .i64 0, .slice none 0 0] 29)).alloc (.cells #[.int .i64 0, .int .i64 0, .int .i64 0, .int .i64 0, .bool false, .bool false] 48) = V at *
  refine CV.out.mono ?_
  rintro e w1 ⟨rfl, hw1⟩
  have CC := hide (l15Copy_walk u x a n cap os w1 HN.out (HA.out.below hw1 (Nat.le_refl _)) hm)
  have HR1 := hide (HR.out.next hw1); have HQ1 := hide (HQ.out.next hw1)
  have HX1 := hide (HX.out.next hw1)
  have HB1 : Hid (Below w.heap.size w w1) := hide (HB2.out.trans (hw1.mono HB2.out.size))
  have hV1 := hw1.size
  clear hw1 CV k0 k1 k2 HB2 HX HR HQ
  have k0 := HX1.out.cell 0 _ rfl; have k1 := HX1.out.cell 1 _ rfl; have k2 := HX1.out.cell 2 _ rfl
  go_wp2_with (go_at_call 23; refine (In_walk _ _ _ _).mono ?_; rintro e w9 ⟨rfl, hq⟩; rw [hq]; clear hq)
  refine CC.out.mono ?_
  rintro e w2 ⟨v, rfl, hO, hw2⟩
  obtain ⟨bz, nz, rfl⟩ := hO.form
  have HR2 := hide (HR1.out.next hw2); have HQ2 := hide (HQ1.out.next hw2)
  have HX2 := hide (HX1.out.next hw2)
  have HB3 : Hid (Below w.heap.size w w2) := hide (HB1.out.trans (hw2.mono HB1.out.size))
  have HO := hide hO
  have hBB : w.heap.size + 3 ≤ w1.heap.size + 2 := by omega
  clear hO hw2 CC HB1 HR1 HX1 HQ1 k0 k1 k2
  have k0 := HX2.out.cell 0 _ rfl; have k1 := HX2.out.cell 1 _ rfl; have k2 := HX2.out.cell 2 _ rfl; have kf := HX2.out.frozen
  go_upto_region 4 with fail
  have HX3 := hide (hv_set (hv_set (hv_set HX2.out 0 (.int .i64 u)) 1 (.int .i64 x)) 2 (.slice bz n nz))
  have hg3 : w2.grownBy (((w2.setCell ⟨w.heap.size, 0, none⟩ (.int .i64 u)).setCell ⟨w.heap.size, 1, none⟩ (.int .i64 x)).setCell ⟨w.heap.size, 2, none⟩ (.slice bz n nz)) (some w.heap.size) := gr_set (gr_set (gr_set (grown_reflp _ _) 0 _) 1 _) 2 _
  have HR3 := hide (hv_gr HR2.out hg3 (by omega)); have HQ3 := hide (hv_gr HQ2.out hg3 (by omega))
  have HO3 := hide (row_gr HO.out hg3 (by omega))
  have HB4 := hide (below_gr HB3.out hg3 HB3.out.size (Nat.le_refl _))
  clear k0 k1 k2 kf HX2 HR2 HQ2 HO HB3 hg3
  generalize ((w2.setCell ⟨w.heap.size, 0, none⟩ (.int .i64 u)).setCell ⟨w.heap.size, 1, none⟩ (.int .i64 x)).setCell ⟨w.heap.size, 2, none⟩ (.slice bz n nz) = W at *
  have hBB2 : w.heap.size + 3 ≤ w1.heap.size + 2 := hBB
  generalize w1.heap.size + 2 = BB at *
  go_wp2_with fail
  go_loopw [7] (fun s w2 => ∃ i : Nat, i ≤ n ∧ s = .int .i64 i ∧ Hid (RowP w2 BB (.slice bz n nz) n os) ∧ Hid (HoldV w2 w.heap.size #[.int .i64 u, .int .i64 x, .slice bz n nz] 29) ∧ Hid (HoldV w2 (w.heap.size + 1) #[.int .i64 0, .int .i64 0, .slice none 0 0] 29) ∧ Hid (HoldV w2 (w.heap.size + 2) #[.int .i64 0, .int .i64 0, .int .i64 0, .int .i64 0, .bool false, .bool false] 48) ∧ Hid (Below w.heap.size w w2)) (fun s _ => n - (intOf s).toNat)
  case atStart => exact ⟨0, Nat.zero_le _, rfl, HO3, HX3, HR3, HQ3, HB4⟩
  case round =>
    obtain ⟨i, hi, rfl, HO, HX, HR, HQ, HB⟩ := hrel
    have k0 := HX.out.cell 0 _ rfl; have k1 := HX.out.cell 1 _ rfl; have k2 := HX.out.cell 2 _ rfl
    by_cases hlt : i < n
    · have hltn : i < n := by have := HLT.out; omega
      have hio : i < os.length := by rw [HN.out]; exact hltn
      obtain ⟨g, cp, e, hgB, hgl⟩ := HO.out.some (by omega)
      injection e with e1 e2 e3
      subst e1 e3
      have hfalse : os[i].f5 = false := HNO.out _ (List.getElem_mem hio)
      have c0 := HO.out.at HN.out hio (j := 0) (by omega); have c1 := HO.out.at HN.out hio (j := 1) (by omega); have c2 := HO.out.at HN.out hio (j := 2) (by omega); have c3 := HO.out.at HN.out hio (j := 3) (by omega); have c4 := HO.out.at HN.out hio (j := 4) (by omega); have c5 := HO.out.at HN.out hio (j := 5) (by omega)
      generalize os[i] = oo at *
      obtain ⟨x0, x1, x2, x3, x4, x5⟩ := oo
      have h5 : x5 = false := hfalse
      subst h5
      have d0 : wr.cell? ⟨g, i * 6, none⟩ = some (.int .i64 x0) := c0
      have d1 : wr.cell? ⟨g, i * 6 + 1, none⟩ = some (.int .i64 x1) := c1
      have d2 : wr.cell? ⟨g, i * 6 + 2, none⟩ = some (.int .i64 x2) := c2
      have d3 : wr.cell? ⟨g, i * 6 + 3, none⟩ = some (.int .i64 x3) := c3
      have d4 : wr.cell? ⟨g, i * 6 + 4, none⟩ = some (.bool x4) := c4
      have d5 : wr.cell? ⟨g, i * 6 + 5, none⟩ = some (.bool false) := c5
      clear c0 c1 c2 c3 c4 c5 hfalse
      have hal := (Below.refl wr.heap.size wr).alloc (Nat.le_refl _) (.cells #[.int .i64 x0, .int .i64 x1, .int .i64 x2, .int .i64 x3, .bool x4, .bool false] 48)
      have r5 := (hv_new wr #[.int .i64 x0, .int .i64 x1, .int .i64 x2, .int .i64 x3, .bool x4, .bool false] 48).cell 5 _ rfl
      have HO2 := hide (HO.out.next hal); have HX2 := hide (HX.out.next hal); have HR2 := hide (HR.out.next hal); have HQ2 := hide (HQ.out.next hal); have HB2 := hide (HB.out.trans (hal.mono HB.out.size))
      clear hal HO HX HR HQ HB
      go_wp2_with fail
      exact ⟨⟨i + 1, by omega, by go_num, HO2, HX2, HR2, HQ2, HB2⟩, by simp [intOf]; omega⟩
    · have hin : i = n := by omega
      subst hin
      have HR1 := HR; have HQ1 := HQ; have HB1 := HB
      have r0 := HR1.out.cell 0 _ rfl; have r1 := HR1.out.cell 1 _ rfl; have r2 := HR1.out.cell 2 _ rfl; have rf := HR1.out.frozen
      have q0 := HQ1.out.cell 0 _ rfl; have q1 := HQ1.out.cell 1 _ rfl; have q2 := HQ1.out.cell 2 _ rfl; have q3 := HQ1.out.cell 3 _ rfl; have q4 := HQ1.out.cell 4 _ rfl; have q5 := HQ1.out.cell 5 _ rfl; have qf := HQ1.out.frozen
      go_wp2_with fail
      exact bodyPost_ret (v := .tuple #[.agg #[.int .i64 0, .int .i64 0, .slice none 0 0], .agg #[.int .i64 0, .int .i64 0, .int .i64 0, .int .i64 0, .bool false, .bool false], .int .i64 13]) (by simp [results, Try.results60, go_sem, r0, r1, r2, q0, q1, q2, q3, q4, q5]) rfl ⟨_, rfl, ownP_nil _ _, below_gr (below_gr HB1.out (gr_set (gr_set (gr_set (grown_reflp _ _) 0 _) 1 _) 2 _) HB1.out.size (Nat.le_succ _)) (gr_set (gr_set (gr_set (gr_set (gr_set (gr_set (grown_reflp _ _) 0 _) 1 _) 2 _) 3 _) 4 _) 5 _) (by simp; exact HB1.out.size) (by omega)⟩

/-- What stays at the return. -/
structure S13 (w W : World) (BB g n nz PB : Nat) (u x x0 x1 t mn : Int) (x4 : Bool) (os : List PieceM) : Prop where
  bel : Below w.heap.size w W
  box : HoldV W w.heap.size #[.int .i64 u, .int .i64 x, .slice (some ⟨g, 0, none⟩) n nz] 29
  pb : HoldV W PB #[.int .i64 x0, .int .i64 x1, .int .i64 t, .int .i64 mn, .bool x4, .bool false] 48
  res : HoldV W (w.heap.size + 1) #[.int .i64 0, .int .i64 0, .slice none 0 0] 29 ∨ HoldV W (w.heap.size + 1) #[.int .i64 u, .int .i64 x, .slice (some ⟨g, 0, none⟩) n nz] 29
  rep : HoldV W (w.heap.size + 2) #[.int .i64 0, .int .i64 0, .int .i64 0, .int .i64 0, .bool false, .bool false] 48 ∨ HoldV W (w.heap.size + 2) #[.int .i64 x0, .int .i64 x1, .int .i64 t, .int .i64 mn, .bool x4, .bool false] 48
  row : RowP W BB (.slice (some ⟨g, 0, none⟩) n nz) n os
def A13 (X g n nz : Nat) (u x x0 x1 t mn : Int) (x4 : Bool) : Nat → Value → World → Prop
  | 0, v, _ => v = .agg #[.int .i64 u, .int .i64 x, .slice (some ⟨g, 0, none⟩) n nz]
  | 1, v, _ => v = .agg #[.int .i64 x0, .int .i64 x1, .int .i64 t, .int .i64 mn, .bool x4, .bool false]
  | 2, _, W => HoldV W (X + 1) #[.int .i64 u, .int .i64 x, .slice (some ⟨g, 0, none⟩) n nz] 29
  | 3, _, W => HoldV W (X + 2) #[.int .i64 x0, .int .i64 x1, .int .i64 t, .int .i64 mn, .bool x4, .bool false] 48
  | _, _, _ => True
theorem A13_kept {X g n nz : Nat} {u x x0 x1 t mn : Int} {x4 : Bool} : ∀ (i : Nat) (v : Value) (W W2 : World), ((HoldV W (X + 1) #[.int .i64 u, .int .i64 x, .slice (some ⟨g, 0, none⟩) n nz] 29 → HoldV W2 (X + 1) #[.int .i64 u, .int .i64 x, .slice (some ⟨g, 0, none⟩) n nz] 29) ∧ (HoldV W (X + 2) #[.int .i64 x0, .int .i64 x1, .int .i64 t, .int .i64 mn, .bool x4, .bool false] 48 → HoldV W2 (X + 2) #[.int .i64 x0, .int .i64 x1, .int .i64 t, .int .i64 mn, .bool x4, .bool false] 48)) → A13 X g n nz u x x0 x1 t mn x4 i v W → A13 X g n nz u x x0 x1 t mn x4 i v W2 := by
  intro i v W W2 hg h
  unfold A13 at h ⊢
  split at h
  all_goals first
    | exact h
    | exact hg.1 h
    | exact hg.2 h
set_option maxRecDepth 100000
set_option maxHeartbeats 8000000 in
theorem specAgain_yes {u x : Int} {os : List PieceM} (t : Int) (hok : bOK u x os) (ht : 0 ≤ t ∧ t ≤ 1000000000) (A0 B0 : List PieceM) (q : PieceM) (hos : os = A0 ++ q :: B0) (hq5 : q.f5 = true) (hA0 : ∀ o ∈ A0, o.f5 = false) : BoardAgainP 60 (fun _ => True) u x os t u x (A0 ++ againP t q :: B0) q.f0 q.f1 t (min (q.f3 + 1) 1000000) q.f4 false 0 := by
  intro a n cap w hn ha hc hm _
  obtain ⟨hb2, hX, hR, hQ⟩ := three_boxes w #[.int .i64 u, .int .i64 x, .slice a n cap] #[.int .i64 0, .int .i64 0, .slice none 0 0] #[.int .i64 0, .int .i64 0, .int .i64 0, .int .i64 0, .bool false, .bool false] 29 29 48
  have HB2 := hide hb2; have HX := hide hX; have HR := hide hR; have HQ := hide hQ
  have k0 := hX.cell 0 _ rfl; have k1 := hX.cell 1 _ rfl; have k2 := hX.cell 2 _ rfl
  have hV : w.heap.size + 2 < (((w.alloc (.cells #[.int .i64 u, .int .i64 x, .slice a n cap] 29)).alloc (.cells #[.int .i64 0, .int .i64 0, .slice none 0 0] 29)).alloc (.cells #[.int .i64 0, .int .i64 0, .int .i64 0, .int .i64 0, .bool false, .bool false] 48)).heap.size := hQ.lt
  have HN := hide hn
  have HA := hide (ha.below hb2 (Nat.le_refl _))
  have CV := hide (l15OK_walk u x a n cap os (((w.alloc (.cells #[.int .i64 u, .int .i64 x, .slice a n cap] 29)).alloc (.cells #[.int .i64 0, .int .i64 0, .slice none 0 0] 29)).alloc (.cells #[.int .i64 0, .int .i64 0, .int .i64 0, .int .i64 0, .bool false, .bool false] 48)) hn (ha.below hb2 (Nat.le_refl _)) hm)
  rw [bokB_yes hok] at CV
  have HOK := hide hok
  have h1 : inB t 0 1000000000 = true := inB_iff.2 ht
  obtain ⟨m0, hm0⟩ : ∃ m0, m0 = A0.length := ⟨_, rfl⟩
  have HM0 := hide hm0
  have HLT : Hid (m0 < n) := hide (by rw [hm0, ← hn, hos]; simp)
  have HOS := hide hos; have HQ5 := hide hq5; have HA0 := hide hA0
  have HQ3' : Hid (1 ≤ q.f3 ∧ q.f3 ≤ 1000000) := hide (chk_mem _ _ _ hok.2.2.2 q (by rw [hos]; simp)).2.2.2.2.1
  clear ht hos hq5 hA0 hm0
  clear hn ha hok hb2 hX hR hQ
  go_enter Try.func60, Try.ntmps60
  go_wp2_with fail
  generalize ((w.alloc (.cells #[.int .i64 u, .int .i64 x, .slice a n cap] 29)).alloc (.cells #[.int .i64 0, .int .i64 0, .slice none 0 0] 29)).alloc (.cells #[.int .i64 0, .int .i64 0, .int .i64 0, .int .i64 0, .bool false, .bool false] 48) = V at *
  refine CV.out.mono ?_
  rintro e w1 ⟨rfl, hw1⟩
  have CC := hide (l15Copy_walk u x a n cap os w1 HN.out (HA.out.below hw1 (Nat.le_refl _)) hm)
  have HR1 := hide (HR.out.next hw1); have HQ1 := hide (HQ.out.next hw1)
  have HX1 := hide (HX.out.next hw1)
  have HB1 : Hid (Below w.heap.size w w1) := hide (HB2.out.trans (hw1.mono HB2.out.size))
  have hV1 := hw1.size
  clear hw1 CV k0 k1 k2 HB2 HX HR HQ
  have k0 := HX1.out.cell 0 _ rfl; have k1 := HX1.out.cell 1 _ rfl; have k2 := HX1.out.cell 2 _ rfl
  go_wp2_with (go_at_call 23; refine (In_walk _ _ _ _).mono ?_; rintro e w9 ⟨rfl, hq⟩; rw [hq]; clear hq)
  refine CC.out.mono ?_
  rintro e w2 ⟨v, rfl, hO, hw2⟩
  obtain ⟨bz, nz, rfl⟩ := hO.form
  have HR2 := hide (HR1.out.next hw2); have HQ2 := hide (HQ1.out.next hw2)
  have HX2 := hide (HX1.out.next hw2)
  have HB3 : Hid (Below w.heap.size w w2) := hide (HB1.out.trans (hw2.mono HB1.out.size))
  have HO := hide hO
  have hBB : w.heap.size + 3 ≤ w1.heap.size + 2 := by omega
  clear hO hw2 CC HB1 HR1 HX1 HQ1 k0 k1 k2
  have k0 := HX2.out.cell 0 _ rfl; have k1 := HX2.out.cell 1 _ rfl; have k2 := HX2.out.cell 2 _ rfl; have kf := HX2.out.frozen
  go_upto_region 4 with fail
  have HX3 := hide (hv_set (hv_set (hv_set HX2.out 0 (.int .i64 u)) 1 (.int .i64 x)) 2 (.slice bz n nz))
  have hg3 : w2.grownBy (((w2.setCell ⟨w.heap.size, 0, none⟩ (.int .i64 u)).setCell ⟨w.heap.size, 1, none⟩ (.int .i64 x)).setCell ⟨w.heap.size, 2, none⟩ (.slice bz n nz)) (some w.heap.size) := gr_set (gr_set (gr_set (grown_reflp _ _) 0 _) 1 _) 2 _
  have HR3 := hide (hv_gr HR2.out hg3 (by omega)); have HQ3 := hide (hv_gr HQ2.out hg3 (by omega))
  have HO3 := hide (row_gr HO.out hg3 (by omega))
  have HB4 := hide (below_gr HB3.out hg3 HB3.out.size (Nat.le_refl _))
  clear k0 k1 k2 kf HX2 HR2 HQ2 HO HB3 hg3
  generalize ((w2.setCell ⟨w.heap.size, 0, none⟩ (.int .i64 u)).setCell ⟨w.heap.size, 1, none⟩ (.int .i64 x)).setCell ⟨w.heap.size, 2, none⟩ (.slice bz n nz) = W at *
  have hBB2 : w.heap.size + 3 ≤ w1.heap.size + 2 := hBB
  generalize w1.heap.size + 2 = BB at *
  go_wp2_with fail
  go_loopw [7] (fun s w2 => ∃ i : Nat, i ≤ m0 ∧ s = .int .i64 i ∧ Hid (RowP w2 BB (.slice bz n nz) n os) ∧ Hid (HoldV w2 w.heap.size #[.int .i64 u, .int .i64 x, .slice bz n nz] 29) ∧ Hid (HoldV w2 (w.heap.size + 1) #[.int .i64 0, .int .i64 0, .slice none 0 0] 29) ∧ Hid (HoldV w2 (w.heap.size + 2) #[.int .i64 0, .int .i64 0, .int .i64 0, .int .i64 0, .bool false, .bool false] 48) ∧ Hid (Below w.heap.size w w2)) (fun s _ => m0 - (intOf s).toNat)
  case atStart => exact ⟨0, Nat.zero_le _, rfl, HO3, HX3, HR3, HQ3, HB4⟩
  case round =>
    obtain ⟨i, hi, rfl, HO, HX, HR, HQ, HB⟩ := hrel
    have k0 := HX.out.cell 0 _ rfl; have k1 := HX.out.cell 1 _ rfl; have k2 := HX.out.cell 2 _ rfl
    by_cases hlt : i < m0
    · have hltn : i < n := by have := HLT.out; omega
      have hio : i < os.length := by rw [HN.out]; exact hltn
      obtain ⟨g, cp, e, hgB, hgl⟩ := HO.out.some (by omega)
      injection e with e1 e2 e3
      subst e1 e3
      have hfalse : os[i].f5 = false := by
        have hl0 : i < A0.length := by have := HM0.out; omega
        have e : os[i]? = some A0[i] := by rw [HOS.out, List.getElem?_append_left hl0, List.getElem?_eq_getElem hl0]
        rw [List.getElem?_eq_getElem hio] at e
        rw [Option.some.inj e]
        exact HA0.out _ (List.getElem_mem hl0)
      have c0 := HO.out.at HN.out hio (j := 0) (by omega); have c1 := HO.out.at HN.out hio (j := 1) (by omega); have c2 := HO.out.at HN.out hio (j := 2) (by omega); have c3 := HO.out.at HN.out hio (j := 3) (by omega); have c4 := HO.out.at HN.out hio (j := 4) (by omega); have c5 := HO.out.at HN.out hio (j := 5) (by omega)
      generalize os[i] = oo at *
      obtain ⟨x0, x1, x2, x3, x4, x5⟩ := oo
      have h5 : x5 = false := hfalse
      subst h5
      have d0 : wr.cell? ⟨g, i * 6, none⟩ = some (.int .i64 x0) := c0
      have d1 : wr.cell? ⟨g, i * 6 + 1, none⟩ = some (.int .i64 x1) := c1
      have d2 : wr.cell? ⟨g, i * 6 + 2, none⟩ = some (.int .i64 x2) := c2
      have d3 : wr.cell? ⟨g, i * 6 + 3, none⟩ = some (.int .i64 x3) := c3
      have d4 : wr.cell? ⟨g, i * 6 + 4, none⟩ = some (.bool x4) := c4
      have d5 : wr.cell? ⟨g, i * 6 + 5, none⟩ = some (.bool false) := c5
      clear c0 c1 c2 c3 c4 c5 hfalse
      have hal := (Below.refl wr.heap.size wr).alloc (Nat.le_refl _) (.cells #[.int .i64 x0, .int .i64 x1, .int .i64 x2, .int .i64 x3, .bool x4, .bool false] 48)
      have r5 := (hv_new wr #[.int .i64 x0, .int .i64 x1, .int .i64 x2, .int .i64 x3, .bool x4, .bool false] 48).cell 5 _ rfl
      have HO2 := hide (HO.out.next hal); have HX2 := hide (HX.out.next hal); have HR2 := hide (HR.out.next hal); have HQ2 := hide (HQ.out.next hal); have HB2 := hide (HB.out.trans (hal.mono HB.out.size))
      clear hal HO HX HR HQ HB
      go_wp2_with fail
      exact ⟨⟨i + 1, by omega, by go_num, HO2, HX2, HR2, HQ2, HB2⟩, by simp [intOf]; omega⟩
    · have him : i = m0 := by omega
      have hltn : i < n := by have := HLT.out; omega
      have hio : i < os.length := by rw [HN.out]; exact hltn
      obtain ⟨g, cp, e, hgB, hgl⟩ := HO.out.some (by omega)
      injection e with e1 e2 e3
      subst e1 e3
      have hoi : os[i] = q := by
        have e : os[i]? = some q := by rw [HOS.out, him, HM0.out, List.getElem?_append_right (Nat.le_refl _), Nat.sub_self]; rfl
        rw [List.getElem?_eq_getElem hio] at e
        exact Option.some.inj e
      have HSET : Hid (os.set i (againP t q) = A0 ++ againP t q :: B0) := hide (by rw [HOS.out, him, HM0.out, List.set_append_right _ _ (Nat.le_refl _), Nat.sub_self]; rfl)
      have c0 := HO.out.at HN.out hio (j := 0) (by omega); have c1 := HO.out.at HN.out hio (j := 1) (by omega); have c2 := HO.out.at HN.out hio (j := 2) (by omega); have c3 := HO.out.at HN.out hio (j := 3) (by omega); have c4 := HO.out.at HN.out hio (j := 4) (by omega); have c5 := HO.out.at HN.out hio (j := 5) (by omega)
      rw [hoi] at c0 c1 c2 c3 c4 c5
      clear hoi hi hlt
      subst him
      obtain ⟨x0, x1, x2, x3, x4, x5⟩ := q
      have h5 : x5 = true := HQ5.out
      subst h5
      obtain ⟨q31, q32⟩ : 1 ≤ x3 ∧ x3 ≤ 1000000 := HQ3'.out
      have d0 : wr.cell? ⟨g, i * 6, none⟩ = some (.int .i64 x0) := c0
      have d1 : wr.cell? ⟨g, i * 6 + 1, none⟩ = some (.int .i64 x1) := c1
      have d2 : wr.cell? ⟨g, i * 6 + 2, none⟩ = some (.int .i64 x2) := c2
      have d3 : wr.cell? ⟨g, i * 6 + 3, none⟩ = some (.int .i64 x3) := c3
      have d4 : wr.cell? ⟨g, i * 6 + 4, none⟩ = some (.bool x4) := c4
      have d5 : wr.cell? ⟨g, i * 6 + 5, none⟩ = some (.bool true) := c5
      clear c0 c1 c2 c3 c4 c5
      obtain ⟨mn, hmn⟩ : ∃ mn, mn = min (x3 + 1) 1000000 := ⟨_, rfl⟩
      have HMN := hide hmn
      clear hmn
      have hwr : w.heap.size + 2 < wr.heap.size := HQ.out.lt
      go_upto_region 12 with (go_at_call 35; refine (l14Min_walk _ _ _).mono ?_; rintro e w9 ⟨rfl, hq⟩; rw [hq, ← HMN.out]; clear hq)
      have hal := (Below.refl wr.heap.size wr).alloc (Nat.le_refl _) (.cells #[.int .i64 x0, .int .i64 x1, .int .i64 t, .int .i64 mn, .bool x4, .bool false] 48)
      have HP2 : Hid (HoldV (wr.alloc (.cells #[.int .i64 x0, .int .i64 x1, .int .i64 t, .int .i64 mn, .bool x4, .bool false] 48)) wr.heap.size _ 48) := hide (hv_new wr _ _)
      have HO4 := hide (HO.out.next hal); have HX4 := hide (HX.out.next hal); have HR4 := hide (HR.out.next hal); have HQ4 := hide (HQ.out.next hal); have HB4' := hide (HB.out.trans (hal.mono HB.out.size))
      clear hal HO HX HR HQ HB d0 d1 d2 d3 d4 d5 k0 k1 k2
      generalize wr.alloc (.cells #[.int .i64 x0, .int .i64 x1, .int .i64 t, .int .i64 mn, .bool x4, .bool false] 48) = wb at *
      generalize wr.heap.size = PB at *
      have p0 : wb.cell? ⟨PB, 0, none⟩ = some (.int .i64 x0) := HP2.out.cell 0 _ rfl
      have p1 : wb.cell? ⟨PB, 1, none⟩ = some (.int .i64 x1) := HP2.out.cell 1 _ rfl
      have p2 : wb.cell? ⟨PB, 2, none⟩ = some (.int .i64 t) := HP2.out.cell 2 _ rfl
      have p3 : wb.cell? ⟨PB, 3, none⟩ = some (.int .i64 mn) := HP2.out.cell 3 _ rfl
      have p4 : wb.cell? ⟨PB, 4, none⟩ = some (.bool x4) := HP2.out.cell 4 _ rfl
      have p5 : wb.cell? ⟨PB, 5, none⟩ = some (.bool false) := HP2.out.cell 5 _ rfl
      have k2 := HX4.out.cell 2 _ rfl
      have d0 : wb.cell? ⟨g, i * 6, none⟩ = some (.int .i64 os[i].f0) := HO4.out.at HN.out hio (j := 0) (by omega)
      have d1 : wb.cell? ⟨g, i * 6 + 1, none⟩ = some (.int .i64 os[i].f1) := HO4.out.at HN.out hio (j := 1) (by omega)
      have d2 : wb.cell? ⟨g, i * 6 + 2, none⟩ = some (.int .i64 os[i].f2) := HO4.out.at HN.out hio (j := 2) (by omega)
      have d3 : wb.cell? ⟨g, i * 6 + 3, none⟩ = some (.int .i64 os[i].f3) := HO4.out.at HN.out hio (j := 3) (by omega)
      have d4 : wb.cell? ⟨g, i * 6 + 4, none⟩ = some (.bool os[i].f4) := HO4.out.at HN.out hio (j := 4) (by omega)
      have d5 : wb.cell? ⟨g, i * 6 + 5, none⟩ = some (.bool os[i].f5) := HO4.out.at HN.out hio (j := 5) (by omega)
      have df := row_frozen HO4.out
      go_upto_region 13 with fail
      have HO5 := hide (row_put6 HO4.out hio (⟨x0, x1, t, mn, x4, false⟩ : PieceM))
      have hgG : wb.grownBy ((((((wb.setCell ⟨g, i * 6, none⟩ (.int .i64 x0)).setCell ⟨g, i * 6 + 1, none⟩ (.int .i64 x1)).setCell ⟨g, i * 6 + 2, none⟩ (.int .i64 t)).setCell ⟨g, i * 6 + 3, none⟩ (.int .i64 mn)).setCell ⟨g, i * 6 + 4, none⟩ (.bool x4)).setCell ⟨g, i * 6 + 5, none⟩ (.bool false)) (some g) := gr_set (gr_set (gr_set (gr_set (gr_set (gr_set (grown_reflp _ _) _ _) _ _) _ _) _ _) _ _) _ _
      have HX5 := hide (hv_gr HX4.out hgG (by omega)); have HR5 := hide (hv_gr HR4.out hgG (by omega)); have HQ5' := hide (hv_gr HQ4.out hgG (by omega)); have HP5 := hide (hv_gr HP2.out hgG (by omega))
      have HB5 := hide (below_gr HB4'.out hgG HB4'.out.size (by omega))
      clear hgG HO4 HX4 HR4 HQ4 HP2 HB4' p0 p1 p2 p3 p4 p5 k2 d0 d1 d2 d3 d4 d5 df
      generalize (((((wb.setCell ⟨g, i * 6, none⟩ (.int .i64 x0)).setCell ⟨g, i * 6 + 1, none⟩ (.int .i64 x1)).setCell ⟨g, i * 6 + 2, none⟩ (.int .i64 t)).setCell ⟨g, i * 6 + 3, none⟩ (.int .i64 mn)).setCell ⟨g, i * 6 + 4, none⟩ (.bool x4)).setCell ⟨g, i * 6 + 5, none⟩ (.bool false) = wc at *
      have HO6 := hide HO5.out
      rw [show (⟨x0, x1, t, mn, x4, false⟩ : PieceM) = againP t ⟨x0, x1, x2, x3, x4, true⟩ by unfold againP; rw [HMN.out], HSET.out] at HO6
      have HOL : Hid ((A0 ++ againP t (⟨x0, x1, x2, x3, x4, true⟩ : PieceM) :: B0).length = n) := hide (by rw [← HSET.out, List.length_set]; exact HN.out)
      have HS : Hid (S13 w wc BB g n nz PB u x x0 x1 t mn x4 (A0 ++ againP t (⟨x0, x1, x2, x3, x4, true⟩ : PieceM) :: B0)) := hide ⟨HB5.out, HX5.out, HP5.out, .inl HR5.out, .inl HQ5'.out, HO6.out⟩
      clear HB5 HX5 HP5 HR5 HQ5' HO5 HO6
      go_wp2_with fail
      refine wp_region_last2 (fun W W2 => ((HoldV W (w.heap.size + 1) #[.int .i64 u, .int .i64 x, .slice (some ⟨g, 0, none⟩) n nz] 29 → HoldV W2 (w.heap.size + 1) #[.int .i64 u, .int .i64 x, .slice (some ⟨g, 0, none⟩) n nz] 29) ∧ (HoldV W (w.heap.size + 2) #[.int .i64 x0, .int .i64 x1, .int .i64 t, .int .i64 mn, .bool x4, .bool false] 48 → HoldV W2 (w.heap.size + 2) #[.int .i64 x0, .int .i64 x1, .int .i64 t, .int .i64 mn, .bool x4, .bool false] 48))) (fun W => S13 w W BB g n nz PB u x x0 x1 t mn x4 (A0 ++ againP t (⟨x0, x1, x2, x3, x4, true⟩ : PieceM) :: B0)) (A13 w.heap.size g n nz u x x0 x1 t mn x4) _ rfl (by kernel_rfl) (by kernel_rfl) (by kernel_rfl) (by kernel_rfl) A13_kept ⟨HS.out.bel.drew, HS.out.box, HS.out.pb, HS.out.res, HS.out.rep, HS.out.row.next ((Below.refl _ _).drew)⟩ ?_ ?_
      · clear HS
        refine EachBut.one _ _ _ ?_ ?_
        · intro v W hB hp KK hKK
          rw [if_pos (by rfl)]
          have hp1 : AllOf (A13 w.heap.size g n nz u x x0 x1 t mn x4) v W [] := hp
          clear hp
          simp only [putAll, Act.put, List.setIfInBounds_toArray, List.set_cons_zero, List.set_cons_succ, Nat.reduceAdd] at hKK ⊢
          have k0 := hB.box.cell 0 _ rfl; have k1 := hB.box.cell 1 _ rfl; have k2 := hB.box.cell 2 _ rfl
          clear hp1
          go_simp
          refine hKK _ _ ⟨id, id⟩ hB ?_
          rfl
        refine EachBut.one _ _ _ ?_ ?_
        · intro v W hB hp KK hKK
          rw [if_pos (by rfl)]
          have hp1 : AllOf (A13 w.heap.size g n nz u x x0 x1 t mn x4) v W [] := hp
          clear hp
          simp only [putAll, Act.put, List.setIfInBounds_toArray, List.set_cons_zero, List.set_cons_succ, Nat.reduceAdd] at hKK ⊢
          have p0 := hB.pb.cell 0 (.int .i64 x0) rfl; have p1 := hB.pb.cell 1 (.int .i64 x1) rfl; have p2 := hB.pb.cell 2 (.int .i64 t) rfl; have p3 := hB.pb.cell 3 (.int .i64 mn) rfl; have p4 := hB.pb.cell 4 (.bool x4) rfl; have p5 := hB.pb.cell 5 (.bool false) rfl
          clear hp1
          go_simp
          refine hKK _ _ ⟨id, id⟩ hB ?_
          rfl
        refine EachBut.one _ _ _ ?_ ?_
        · intro v W hB hp KK hKK
          rw [if_pos (by rfl)]
          have hp1 : AllOf (A13 w.heap.size g n nz u x x0 x1 t mn x4) v W [0, 0] := hp
          clear hp
          simp only [putAll, Act.put, List.setIfInBounds_toArray, List.set_cons_zero, List.set_cons_succ, Nat.reduceAdd] at hKK ⊢
          have e0 : v 0 = .agg #[.int .i64 u, .int .i64 x, .slice (some ⟨g, 0, none⟩) n nz] := hp1.1
          simp only [e0] at hKK ⊢
          clear e0
          clear hp1
          have hg3 : W.grownBy (((W.setCell ⟨w.heap.size + 1, 0, none⟩ (.int .i64 u)).setCell ⟨w.heap.size + 1, 1, none⟩ (.int .i64 x)).setCell ⟨w.heap.size + 1, 2, none⟩ (.slice (some ⟨g, 0, none⟩) n nz)) (some (w.heap.size + 1)) := gr_set (gr_set (gr_set (grown_reflp _ _) 0 _) 1 _) 2 _
          have HB6 : Hid (S13 w (((W.setCell ⟨w.heap.size + 1, 0, none⟩ (.int .i64 u)).setCell ⟨w.heap.size + 1, 1, none⟩ (.int .i64 x)).setCell ⟨w.heap.size + 1, 2, none⟩ (.slice (some ⟨g, 0, none⟩) n nz)) BB g n nz PB u x x0 x1 t mn x4 (A0 ++ againP t (⟨x0, x1, x2, x3, x4, true⟩ : PieceM) :: B0) ∧ HoldV (((W.setCell ⟨w.heap.size + 1, 0, none⟩ (.int .i64 u)).setCell ⟨w.heap.size + 1, 1, none⟩ (.int .i64 x)).setCell ⟨w.heap.size + 1, 2, none⟩ (.slice (some ⟨g, 0, none⟩) n nz)) (w.heap.size + 1) #[.int .i64 u, .int .i64 x, .slice (some ⟨g, 0, none⟩) n nz] 29) := hide (by
            have hh : HoldV (((W.setCell ⟨w.heap.size + 1, 0, none⟩ (.int .i64 u)).setCell ⟨w.heap.size + 1, 1, none⟩ (.int .i64 x)).setCell ⟨w.heap.size + 1, 2, none⟩ (.slice (some ⟨g, 0, none⟩) n nz)) (w.heap.size + 1) #[.int .i64 u, .int .i64 x, .slice (some ⟨g, 0, none⟩) n nz] 29 := by
              rcases hB.res with h | h <;> exact hv_set (hv_set (hv_set h 0 _) 1 _) 2 _
            exact ⟨⟨below_gr hB.bel hg3 hB.bel.size (Nat.le_succ _), hv_gr hB.box hg3 (by omega), hv_gr hB.pb hg3 (by omega), .inr hh, (by rcases hB.rep with h | h; exact .inl (hv_gr h hg3 (by omega)); exact .inr (hv_gr h hg3 (by omega))), row_gr hB.row hg3 (by omega)⟩, hh⟩)
          have HG := hide hg3
          clear hg3
          rcases hB.res with h | h
          all_goals
            have r0 := h.cell 0 _ rfl; have r1 := h.cell 1 _ rfl; have r2 := h.cell 2 _ rfl; have rf := h.frozen
            clear hB h
            go_simp
            exact hKK undef _ ⟨fun _ => HB6.out.2, fun h => hv_gr h HG.out (by omega)⟩ HB6.out.1 HB6.out.2
        refine EachBut.one _ _ _ ?_ ?_
        · intro v W hB hp KK hKK
          rw [if_pos (by rfl)]
          have hp1 : AllOf (A13 w.heap.size g n nz u x x0 x1 t mn x4) v W [1, 2, 0, 1, 2] := hp
          clear hp
          simp only [putAll, Act.put, List.setIfInBounds_toArray, List.set_cons_zero, List.set_cons_succ, Nat.reduceAdd] at hKK ⊢
          have e1 : v 1 = .agg #[.int .i64 x0, .int .i64 x1, .int .i64 t, .int .i64 mn, .bool x4, .bool false] := hp1.1
          simp only [e1] at hKK ⊢
          clear e1
          clear hp1
          have hg3 : W.grownBy ((((((W.setCell ⟨w.heap.size + 2, 0, none⟩ (.int .i64 x0)).setCell ⟨w.heap.size + 2, 1, none⟩ (.int .i64 x1)).setCell ⟨w.heap.size + 2, 2, none⟩ (.int .i64 t)).setCell ⟨w.heap.size + 2, 3, none⟩ (.int .i64 mn)).setCell ⟨w.heap.size + 2, 4, none⟩ (.bool x4)).setCell ⟨w.heap.size + 2, 5, none⟩ (.bool false)) (some (w.heap.size + 2)) := gr_set (gr_set (gr_set (gr_set (gr_set (gr_set (grown_reflp _ _) 0 _) 1 _) 2 _) 3 _) 4 _) 5 _
          have HB6 : Hid (S13 w ((((((W.setCell ⟨w.heap.size + 2, 0, none⟩ (.int .i64 x0)).setCell ⟨w.heap.size + 2, 1, none⟩ (.int .i64 x1)).setCell ⟨w.heap.size + 2, 2, none⟩ (.int .i64 t)).setCell ⟨w.heap.size + 2, 3, none⟩ (.int .i64 mn)).setCell ⟨w.heap.size + 2, 4, none⟩ (.bool x4)).setCell ⟨w.heap.size + 2, 5, none⟩ (.bool false)) BB g n nz PB u x x0 x1 t mn x4 (A0 ++ againP t (⟨x0, x1, x2, x3, x4, true⟩ : PieceM) :: B0) ∧ HoldV ((((((W.setCell ⟨w.heap.size + 2, 0, none⟩ (.int .i64 x0)).setCell ⟨w.heap.size + 2, 1, none⟩ (.int .i64 x1)).setCell ⟨w.heap.size + 2, 2, none⟩ (.int .i64 t)).setCell ⟨w.heap.size + 2, 3, none⟩ (.int .i64 mn)).setCell ⟨w.heap.size + 2, 4, none⟩ (.bool x4)).setCell ⟨w.heap.size + 2, 5, none⟩ (.bool false)) (w.heap.size + 2) #[.int .i64 x0, .int .i64 x1, .int .i64 t, .int .i64 mn, .bool x4, .bool false] 48) := hide (by
            have hh : HoldV ((((((W.setCell ⟨w.heap.size + 2, 0, none⟩ (.int .i64 x0)).setCell ⟨w.heap.size + 2, 1, none⟩ (.int .i64 x1)).setCell ⟨w.heap.size + 2, 2, none⟩ (.int .i64 t)).setCell ⟨w.heap.size + 2, 3, none⟩ (.int .i64 mn)).setCell ⟨w.heap.size + 2, 4, none⟩ (.bool x4)).setCell ⟨w.heap.size + 2, 5, none⟩ (.bool false)) (w.heap.size + 2) #[.int .i64 x0, .int .i64 x1, .int .i64 t, .int .i64 mn, .bool x4, .bool false] 48 := by
              rcases hB.rep with h | h <;> exact hv_set (hv_set (hv_set (hv_set (hv_set (hv_set h 0 _) 1 _) 2 _) 3 _) 4 _) 5 _
            exact ⟨⟨below_gr hB.bel hg3 hB.bel.size (by omega), hv_gr hB.box hg3 (by omega), hv_gr hB.pb hg3 (by omega), (by rcases hB.res with h | h; exact .inl (hv_gr h hg3 (by omega)); exact .inr (hv_gr h hg3 (by omega))), .inr hh, row_gr hB.row hg3 (by omega)⟩, hh⟩)
          have HG := hide hg3
          clear hg3
          rcases hB.rep with h | h
          all_goals
            have r0 := h.cell 0 _ rfl; have r1 := h.cell 1 _ rfl; have r2 := h.cell 2 _ rfl; have r3 := h.cell 3 _ rfl; have r4 := h.cell 4 _ rfl; have r5 := h.cell 5 _ rfl; have rf := h.frozen
            clear hB h
            go_simp
            exact hKK undef _ ⟨fun h => hv_gr h HG.out (by omega), fun _ => HB6.out.2⟩ HB6.out.1 HB6.out.2
        · exact trivial
      intro v W hB hA KK hKK
      rw [if_pos (by rfl)]
      simp only [putAll, Act.put, List.setIfInBounds_toArray, List.set_cons_zero, List.set_cons_succ, Nat.reduceAdd]
      have e0 : v 0 = .agg #[.int .i64 u, .int .i64 x, .slice (some ⟨g, 0, none⟩) n nz] := hA 0 (by decide)
      have e1 : v 1 = .agg #[.int .i64 x0, .int .i64 x1, .int .i64 t, .int .i64 mn, .bool x4, .bool false] := hA 1 (by decide)
      have a2 : HoldV W (w.heap.size + 1) #[.int .i64 u, .int .i64 x, .slice (some ⟨g, 0, none⟩) n nz] 29 := hA 2 (by decide)
      have a3 : HoldV W (w.heap.size + 2) #[.int .i64 x0, .int .i64 x1, .int .i64 t, .int .i64 mn, .bool x4, .bool false] 48 := hA 3 (by decide)
      simp only [e0, e1]
      clear hA e0 e1
      have r0 := a2.cell 0 _ rfl; have r1 := a2.cell 1 _ rfl; have r2 := a2.cell 2 _ rfl
      have q0 := a3.cell 0 (.int .i64 x0) rfl; have q1 := a3.cell 1 (.int .i64 x1) rfl; have q2 := a3.cell 2 (.int .i64 t) rfl; have q3 := a3.cell 3 (.int .i64 mn) rfl; have q4 := a3.cell 4 (.bool x4) rfl; have q5 := a3.cell 5 (.bool false) rfl
      have HFF : Hid (OwnP W w.heap.size (.slice (some ⟨g, 0, none⟩) n nz) (A0 ++ againP t (⟨x0, x1, x2, x3, x4, true⟩ : PieceM) :: B0) ∧ Below w.heap.size w W) := hide ⟨ownP_mono (row_own hB.row HOL.out) (by omega), hB.bel⟩
      clear hB a2 a3
      go_simp
      refine hKK _ _ ?_
      clear hKK KK
      go_wp2_with fail
      exact bodyPost_ret (v := .tuple #[.agg #[.int .i64 u, .int .i64 x, .slice (some ⟨g, 0, none⟩) n nz], .agg #[.int .i64 x0, .int .i64 x1, .int .i64 t, .int .i64 mn, .bool x4, .bool false], .int .i64 0]) (by simp [results, Try.results60, go_sem, r0, r1, r2, q0, q1, q2, q3, q4, q5]) rfl ⟨_, by rw [HMN.out], HFF.out.1, HFF.out.2⟩
set_option maxRecDepth 100000
theorem map_split : ∀ (ns : List (Nat × PieceM)) (a b : List PieceM), ns.map Prod.snd = a ++ b → ∃ xs zs, ns = xs ++ zs ∧ xs.map Prod.snd = a ∧ zs.map Prod.snd = b
  | ns, [], b, h => ⟨[], ns, rfl, rfl, h⟩
  | [], a :: r, b, h => by simp at h
  | p :: ns, a :: r, b, h => by
    rw [List.map_cons, List.cons_append] at h
    obtain ⟨xs, zs, h1, h2, h3⟩ := map_split ns r b (List.cons.inj h).2
    exact ⟨p :: xs, zs, by rw [h1]; rfl, by rw [List.map_cons, h2, (List.cons.inj h).1], h3⟩
set_option maxHeartbeats 8000000 in
theorem implAgain_form {u x : Int} {os : List PieceM} (t : Int) (hok : bOK u x os) (ht : ¬ (0 ≤ t ∧ t ≤ 1000000000)) : BoardAgainP 15 (fun _ => True) u x os t 0 0 [] 0 0 0 0 false false 1 := by
  intro a n cap w hn ha hc hm _
  obtain ⟨hb2, hX, hR, hQ⟩ := three_boxes w #[.int .i64 u, .int .i64 x, .slice a n cap] #[.int .i64 0, .int .i64 0, .slice none 0 0] #[.int .i64 0, .int .i64 0, .int .i64 0, .int .i64 0, .bool false, .bool false] 29 29 48
  have HB2 := hide hb2; have HX := hide hX; have HR := hide hR; have HQ := hide hQ
  have k0 := hX.cell 0 _ rfl; have k1 := hX.cell 1 _ rfl; have k2 := hX.cell 2 _ rfl
  have hV : w.heap.size + 2 < (((w.alloc (.cells #[.int .i64 u, .int .i64 x, .slice a n cap] 29)).alloc (.cells #[.int .i64 0, .int .i64 0, .slice none 0 0] 29)).alloc (.cells #[.int .i64 0, .int .i64 0, .int .i64 0, .int .i64 0, .bool false, .bool false] 48)).heap.size := hQ.lt
  have HN := hide hn
  have HA := hide (ha.below hb2 (Nat.le_refl _))
  have CV := hide (newPieceList_yes u x a n cap os (((w.alloc (.cells #[.int .i64 u, .int .i64 x, .slice a n cap] 29)).alloc (.cells #[.int .i64 0, .int .i64 0, .slice none 0 0] 29)).alloc (.cells #[.int .i64 0, .int .i64 0, .int .i64 0, .int .i64 0, .bool false, .bool false] 48)) hn (ha.below hb2 (Nat.le_refl _)) hm hok)
  have HOK := hide hok
  have HTI := hide (fun W => isTime_walk t W)
  rw [show inB t 0 1000000000 = false from decide_eq_false ht] at HTI
  clear ht
  clear hn ha hok hb2 hX hR hQ HA
  go_enter Try.func15, Try.ntmps15
  go_wp2_with fail
  generalize ((w.alloc (.cells #[.int .i64 u, .int .i64 x, .slice a n cap] 29)).alloc (.cells #[.int .i64 0, .int .i64 0, .slice none 0 0] 29)).alloc (.cells #[.int .i64 0, .int .i64 0, .int .i64 0, .int .i64 0, .bool false, .bool false] 48) = V at *
  refine CV.out.mono ?_
  rintro e w1 ⟨L, ns, rfl, hD, hM, hw1⟩
  have HR1 := hide (HR.out.next hw1); have HQ1 := hide (HQ.out.next hw1)
  have HB1 : Hid (Below w.heap.size w w1) := hide (HB2.out.trans (hw1.mono HB2.out.size))
  have r0 := HR1.out.cell 0 _ rfl; have r1 := HR1.out.cell 1 _ rfl; have r2 := HR1.out.cell 2 _ rfl; have rf := HR1.out.frozen
  have q0 := HQ1.out.cell 0 _ rfl; have q1 := HQ1.out.cell 1 _ rfl; have q2 := HQ1.out.cell 2 _ rfl; have q3 := HQ1.out.cell 3 _ rfl; have q4 := HQ1.out.cell 4 _ rfl; have q5 := HQ1.out.cell 5 _ rfl; have qf := HQ1.out.frozen
  clear hw1 CV k0 k1 k2 HB2 HX HR HQ hD hM
  go_wp2_with (go_at_call 26; with_reducible refine (HTI.out _).mono ?_; rintro e w2 ⟨rfl, rfl⟩)
  exact bodyPost_ret (v := .tuple #[.agg #[.int .i64 0, .int .i64 0, .slice none 0 0], .agg #[.int .i64 0, .int .i64 0, .int .i64 0, .int .i64 0, .bool false, .bool false], .int .i64 1]) (by simp [results, Try.results15, go_sem, r0, r1, r2, q0, q1, q2, q3, q4, q5]) rfl ⟨_, rfl, ownP_nil _ _, below_gr (below_gr HB1.out (gr_set (gr_set (gr_set (grown_reflp _ _) 0 _) 1 _) 2 _) HB1.out.size (Nat.le_succ _)) (gr_set (gr_set (gr_set (gr_set (gr_set (gr_set (grown_reflp _ _) 0 _) 1 _) 2 _) 3 _) 4 _) 5 _) (by simp; exact HB1.out.size) (by omega)⟩

set_option maxHeartbeats 8000000 in
theorem implAgain_none {u x : Int} {os : List PieceM} (t : Int) (hok : bOK u x os) (ht : 0 ≤ t ∧ t ≤ 1000000000) (hno : ∀ o ∈ os, o.f5 = false) : BoardAgainP 15 (fun _ => True) u x os t 0 0 [] 0 0 0 0 false false 13 := by
  intro a n cap w hn ha hc hm _
  obtain ⟨hb2, hX, hR, hQ⟩ := three_boxes w #[.int .i64 u, .int .i64 x, .slice a n cap] #[.int .i64 0, .int .i64 0, .slice none 0 0] #[.int .i64 0, .int .i64 0, .int .i64 0, .int .i64 0, .bool false, .bool false] 29 29 48
  have HB2 := hide hb2; have HX := hide hX; have HR := hide hR; have HQ := hide hQ
  have k0 := hX.cell 0 _ rfl; have k1 := hX.cell 1 _ rfl; have k2 := hX.cell 2 _ rfl
  have hV : w.heap.size + 2 < (((w.alloc (.cells #[.int .i64 u, .int .i64 x, .slice a n cap] 29)).alloc (.cells #[.int .i64 0, .int .i64 0, .slice none 0 0] 29)).alloc (.cells #[.int .i64 0, .int .i64 0, .int .i64 0, .int .i64 0, .bool false, .bool false] 48)).heap.size := hQ.lt
  have HN := hide hn
  have HA := hide (ha.below hb2 (Nat.le_refl _))
  have CV := hide (newPieceList_yes u x a n cap os (((w.alloc (.cells #[.int .i64 u, .int .i64 x, .slice a n cap] 29)).alloc (.cells #[.int .i64 0, .int .i64 0, .slice none 0 0] 29)).alloc (.cells #[.int .i64 0, .int .i64 0, .int .i64 0, .int .i64 0, .bool false, .bool false] 48)) hn (ha.below hb2 (Nat.le_refl _)) hm hok)
  have HOK := hide hok
  have HTI := hide (fun W => isTime_walk t W)
  rw [inB_iff.2 ht] at HTI
  have HNO := hide hno
  clear ht hno
  clear hn ha hok hb2 hX hR hQ HA
  go_enter Try.func15, Try.ntmps15
  go_wp2_with fail
  generalize ((w.alloc (.cells #[.int .i64 u, .int .i64 x, .slice a n cap] 29)).alloc (.cells #[.int .i64 0, .int .i64 0, .slice none 0 0] 29)).alloc (.cells #[.int .i64 0, .int .i64 0, .int .i64 0, .int .i64 0, .bool false, .bool false] 48) = V at *
  refine CV.out.mono ?_
  rintro e w1 ⟨L, ns, rfl, hD, hM, hw1⟩
  have CF := hide (firstLost_walk _ L u x ns ns [] none w1 hD (by rw [List.append_nil]) (fun q hq => HNO.out q.2 (by rw [← hM]; exact List.mem_map_of_mem hq)) (.inl ⟨rfl, rfl⟩))
  rw [show ptO none = Value.pointer none from rfl] at CF
  have HR1 := hide (HR.out.next hw1); have HQ1 := hide (HQ.out.next hw1)
  have HB1 : Hid (Below w.heap.size w w1) := hide (HB2.out.trans (hw1.mono HB2.out.size))
  have r0 := HR1.out.cell 0 _ rfl; have r1 := HR1.out.cell 1 _ rfl; have r2 := HR1.out.cell 2 _ rfl; have rf := HR1.out.frozen
  have q0 := HQ1.out.cell 0 _ rfl; have q1 := HQ1.out.cell 1 _ rfl; have q2 := HQ1.out.cell 2 _ rfl; have q3 := HQ1.out.cell 3 _ rfl; have q4 := HQ1.out.cell 4 _ rfl; have q5 := HQ1.out.cell 5 _ rfl; have qf := HQ1.out.frozen
  clear hw1 CV k0 k1 k2 HB2 HX HR HQ hD hM
  go_wp2_with (first | (go_at_call 26; with_reducible refine (HTI.out _).mono ?_; rintro e w2 ⟨rfl, rfl⟩) | (go_at_call 33; with_reducible refine CF.out.mono ?_; rintro e w2 ⟨rfl, rfl⟩))
  exact bodyPost_ret (v := .tuple #[.agg #[.int .i64 0, .int .i64 0, .slice none 0 0], .agg #[.int .i64 0, .int .i64 0, .int .i64 0, .int .i64 0, .bool false, .bool false], .int .i64 13]) (by simp [results, Try.results15, go_sem, r0, r1, r2, q0, q1, q2, q3, q4, q5]) rfl ⟨_, rfl, ownP_nil _ _, below_gr (below_gr HB1.out (gr_set (gr_set (gr_set (grown_reflp _ _) 0 _) 1 _) 2 _) HB1.out.size (Nat.le_succ _)) (gr_set (gr_set (gr_set (gr_set (gr_set (gr_set (grown_reflp _ _) 0 _) 1 _) 2 _) 3 _) 4 _) 5 _) (by simp; exact HB1.out.size) (by omega)⟩

set_option maxHeartbeats 8000000 in
theorem implAgain_yes {u x : Int} {os : List PieceM} (t : Int) (hok : bOK u x os) (ht : 0 ≤ t ∧ t ≤ 1000000000) (A0 B0 : List PieceM) (q : PieceM) (hos : os = A0 ++ q :: B0) (hq5 : q.f5 = true) (hA0 : ∀ o ∈ A0, o.f5 = false) : BoardAgainP 15 (fun _ => True) u x os t u x (A0 ++ againP t q :: B0) q.f0 q.f1 t (min (q.f3 + 1) 1000000) q.f4 false 0 := by
  intro a n cap w hn ha hc hm _
  obtain ⟨hb2, hX, hR, hQ⟩ := three_boxes w #[.int .i64 u, .int .i64 x, .slice a n cap] #[.int .i64 0, .int .i64 0, .slice none 0 0] #[.int .i64 0, .int .i64 0, .int .i64 0, .int .i64 0, .bool false, .bool false] 29 29 48
  have HB2 := hide hb2; have HX := hide hX; have HR := hide hR; have HQ := hide hQ
  have k0 := hX.cell 0 _ rfl; have k1 := hX.cell 1 _ rfl; have k2 := hX.cell 2 _ rfl
  have hV : w.heap.size + 2 < (((w.alloc (.cells #[.int .i64 u, .int .i64 x, .slice a n cap] 29)).alloc (.cells #[.int .i64 0, .int .i64 0, .slice none 0 0] 29)).alloc (.cells #[.int .i64 0, .int .i64 0, .int .i64 0, .int .i64 0, .bool false, .bool false] 48)).heap.size := hQ.lt
  have HN := hide hn
  have HA := hide (ha.below hb2 (Nat.le_refl _))
  have CV := hide (newPieceList_yes u x a n cap os (((w.alloc (.cells #[.int .i64 u, .int .i64 x, .slice a n cap] 29)).alloc (.cells #[.int .i64 0, .int .i64 0, .slice none 0 0] 29)).alloc (.cells #[.int .i64 0, .int .i64 0, .int .i64 0, .int .i64 0, .bool false, .bool false] 48)) hn (ha.below hb2 (Nat.le_refl _)) hm hok)
  have HOK := hide hok
  have HTI := hide (fun W => isTime_walk t W)
  rw [inB_iff.2 ht] at HTI
  have HOS := hide hos; have HQ5 := hide hq5; have HA0 := hide hA0
  have HQ3 : Hid (1 ≤ q.f3 ∧ q.f3 ≤ 1000000) := hide (chk_mem _ _ _ hok.2.2.2 q (by rw [hos]; simp)).2.2.2.2.1
  have HLL : Hid (os.length ≤ 4096) := hide hok.2.2.1
  clear ht hos hq5 hA0
  clear hn ha hok hb2 hX hR hQ HA
  go_enter Try.func15, Try.ntmps15
  go_wp2_with fail
  generalize ((w.alloc (.cells #[.int .i64 u, .int .i64 x, .slice a n cap] 29)).alloc (.cells #[.int .i64 0, .int .i64 0, .slice none 0 0] 29)).alloc (.cells #[.int .i64 0, .int .i64 0, .int .i64 0, .int .i64 0, .bool false, .bool false] 48) = V at *
  refine CV.out.mono ?_
  rintro e w1 ⟨L, ns, rfl, hD, hM, hw1⟩
  obtain ⟨xs, zs, hns, hm1, hm2⟩ := map_split ns A0 (q :: B0) (hM.trans HOS.out)
  obtain ⟨c, zq, ys, rfl⟩ : ∃ c zq ys, zs = (c, zq) :: ys := by
    cases zs with
    | nil => simp at hm2
    | cons z ys => exact ⟨z.1, z.2, ys, rfl⟩
  have hzq : zq = q := by simpa using (List.cons.inj hm2).1
  subst hzq
  have hys : ys.map Prod.snd = B0 := (List.cons.inj hm2).2
  have CF := hide (firstLost_walk _ L u x ns xs ((c, zq) :: ys) (some c) w1 hD hns (fun p hp => HA0.out p.2 (by rw [← hm1]; exact List.mem_map_of_mem hp)) (.inr ⟨c, zq, ys, rfl, rfl, HQ5.out⟩))
  rw [show ptO (some c) = Value.pointer (some ⟨c, 0, none⟩) from rfl] at CF
  have hD' : DL w1 V.heap.size L u x (xs ++ (c, zq) :: ys) := by rw [← hns]; exact hD
  have HD1 := hide hD'
  have hcV : V.heap.size ≤ c := hD'.lo c (by simp [bks])
  have CM := hide (markAgain_walk c zq _ _ t w1 hD'.at HQ3.out.1 HQ3.out.2)
  have HM1 := hide hm1; have HM2 := hide hys
  have HNL : Hid ((xs ++ (c, againP t zq) :: ys).length ≤ 1048576) := hide (by have h1 := congrArg List.length hM; rw [hns, List.length_map] at h1; have h2 := HLL.out; simp at h1 ⊢; omega)
  have HR1 := hide (HR.out.next hw1); have HQ1 := hide (HQ.out.next hw1)
  have HB1 : Hid (Below w.heap.size w w1) := hide (HB2.out.trans (hw1.mono HB2.out.size))
  have hV1 := hw1.size
  clear hw1 CV k0 k1 k2 HB2 HX HR HQ hD hD' hM hns hm1 hm2 hys
  go_wp2_with (first | (go_at_call 26; with_reducible refine (HTI.out _).mono ?_; rintro e w2 ⟨rfl, rfl⟩) | (go_at_call 33; with_reducible refine CF.out.mono ?_; rintro e w2 ⟨rfl, rfl⟩))
  refine CM.out.mono ?_
  rintro e w3 ⟨rfl, hc3, hg3⟩
  have HD3 := hide (HD1.out.put (againP t zq) hc3 (fun k hk hlt => hg3.block k hlt (fun e => hk (Option.some.inj e))))
  have HR3 := hide (hv_gr HR1.out hg3 (by omega)); have HQ3' := hide (hv_gr HQ1.out hg3 (by omega))
  have HB3 := hide (below_gr HB1.out hg3 HB1.out.size (by omega))
  have hV3 := hg3.size
  clear hc3 hg3 CM HD1 HR1 HQ1 HB1 CF
  obtain ⟨x0, x1, x2, x3, x4, x5⟩ := zq
  have CB := hide (board_walk _ L u x (xs ++ (c, againP t ⟨x0, x1, x2, x3, x4, x5⟩) :: ys) w3.drew HD3.out.drew HNL.out)
  have c0 : w3.cell? ⟨c, 0, none⟩ = some (.int .i64 x0) := HD3.out.at.cell 0 _ rfl
  have c1 : w3.cell? ⟨c, 1, none⟩ = some (.int .i64 x1) := HD3.out.at.cell 1 _ rfl
  have c2 : w3.cell? ⟨c, 2, none⟩ = some (.int .i64 t) := HD3.out.at.cell 2 _ rfl
  have c3 : w3.cell? ⟨c, 3, none⟩ = some (.int .i64 (min (x3 + 1) 1000000)) := HD3.out.at.cell 3 _ rfl
  have c4 : w3.cell? ⟨c, 4, none⟩ = some (.bool x4) := HD3.out.at.cell 4 _ rfl
  have c5 : w3.cell? ⟨c, 5, none⟩ = some (.bool false) := HD3.out.at.cell 5 _ rfl
  obtain ⟨mn, hmn⟩ : ∃ mn, mn = min (x3 + 1) 1000000 := ⟨_, rfl⟩
  rw [← hmn] at c3
  have HMN := hide hmn
  clear hmn
  obtain ⟨ln, hln⟩ : ∃ ln, ln = ((xs ++ (c, againP t ⟨x0, x1, x2, x3, x4, x5⟩) :: ys).map Prod.snd).length := ⟨_, rfl⟩
  have HLEN := hide hln
  have HLST : Hid ((xs ++ (c, againP t ⟨x0, x1, x2, x3, x4, x5⟩) :: ys).map Prod.snd = A0 ++ againP t ⟨x0, x1, x2, x3, x4, x5⟩ :: B0) := hide (by rw [List.map_append, List.map_cons, HM1.out, HM2.out])
  clear hln
  have hne1 : c ≠ w.heap.size + 1 := by omega
  have hne2 : c ≠ w.heap.size + 2 := by omega
  go_upto_region 8 with fail
  go_region_with (go_at_call 28; go_loud (refine CB.out.mono ?_; rintro e w4 ⟨v, rfl, hO, hw4⟩; obtain ⟨bz, nz, hv, _⟩ := arrP_own hO; rw [← HLEN.out] at hv; subst hv; have HR4 := hide (HR3.out.next (below_drew hw4)); have HQ4 := hide (HQ3'.out.next (below_drew hw4)); have HC4 := HD3.out.at.next (below_drew hw4); have d0 : w4.cell? ⟨c, 0, none⟩ = some (.int .i64 x0) := HC4.cell 0 _ rfl; have d1 : w4.cell? ⟨c, 1, none⟩ = some (.int .i64 x1) := HC4.cell 1 _ rfl; have d2 : w4.cell? ⟨c, 2, none⟩ = some (.int .i64 t) := HC4.cell 2 _ rfl; have d3 : w4.cell? ⟨c, 3, none⟩ = some (.int .i64 mn) := (show w4.cell? ⟨c, 3, none⟩ = some (.int .i64 (min (x3 + 1) 1000000)) from HC4.cell 3 _ rfl).trans (by rw [HMN.out]); have d4 : w4.cell? ⟨c, 4, none⟩ = some (.bool x4) := HC4.cell 4 _ rfl; have d5 : w4.cell? ⟨c, 5, none⟩ = some (.bool false) := HC4.cell 5 _ rfl; have r0 := HR4.out.cell 0 _ rfl; have r1 := HR4.out.cell 1 _ rfl; have r2 := HR4.out.cell 2 _ rfl; have rf := HR4.out.frozen; have q0 := HQ4.out.cell 0 _ rfl; have q1 := HQ4.out.cell 1 _ rfl; have q2 := HQ4.out.cell 2 _ rfl; have q3 := HQ4.out.cell 3 _ rfl; have q4 := HQ4.out.cell 4 _ rfl; have q5 := HQ4.out.cell 5 _ rfl; have qf := HQ4.out.frozen))
  all_goals
    have HO4 := hide (ownP_mono hO (C := w.heap.size + 3) (by have := hV3; show w.heap.size + 3 ≤ w3.heap.size; omega))
    have HB4 : Hid (Below w.heap.size w w4) := hide (HB3.out.trans ((below_drew hw4).mono HB3.out.size))
    clear hO hw4 HC4
    go_wp2_with fail
    exact bodyPost_ret (v := .tuple #[.agg #[.int .i64 u, .int .i64 x, .slice bz ln nz], .agg #[.int .i64 x0, .int .i64 x1, .int .i64 t, .int .i64 mn, .bool x4, .bool false], .int .i64 0]) (by simp [results, Try.results15, go_sem, r0, r1, r2, q0, q1, q2, q3, q4, q5]) rfl ⟨_, by rw [HMN.out], by rw [← HLST.out]; exact ownP_mono (ownP_gr (ownP_gr HO4.out (gr_set (gr_set (gr_set (grown_reflp _ _) 0 _) 1 _) 2 _) (by omega)) (g := w.heap.size + 2) (gr_set (gr_set (gr_set (gr_set (gr_set (gr_set (grown_reflp _ _) 0 _) 1 _) 2 _) 3 _) 4 _) 5 _) (by omega)) (by omega), below_gr (below_gr HB4.out (gr_set (gr_set (gr_set (grown_reflp _ _) 0 _) 1 _) 2 _) HB4.out.size (Nat.le_succ _)) (Y := w.heap.size + 2) (gr_set (gr_set (gr_set (gr_set (gr_set (gr_set (grown_reflp _ _) 0 _) 1 _) 2 _) 3 _) 4 _) 5 _) (by simp; exact HB4.out.size) (by omega)⟩
set_option maxRecDepth 100000
/-- A piece cut into pieces of so many bytes, and the rest. -/
def cutF : Nat → Int → PieceM → List PieceM
  | 0, _, o => [o]
  | f + 1, k, o => if k < o.f1 - o.f0 then ⟨o.f0, o.f0 + k, o.f2, o.f3, o.f4, o.f5⟩ :: cutF f k ⟨o.f0 + k, o.f1, o.f2, o.f3, o.f4, o.f5⟩ else [o]
def cutL (k : Int) (o : PieceM) : List PieceM := cutF (o.f1 - o.f0).toNat k o
def splitL (k : Int) (os : List PieceM) : List PieceM := os.flatMap (cutL k)
/-- How many pieces that makes. -/
def cntS (k : Int) : List PieceM → Int
  | [] => 0
  | o :: r => (o.f1 - o.f0 + k - 1) / k + cntS k r
theorem cutF_fuel {k : Int} (hk : 1 ≤ k) : ∀ (f g : Nat) (o : PieceM), (o.f1 - o.f0).toNat ≤ f → (o.f1 - o.f0).toNat ≤ g → cutF f k o = cutF g k o
  | 0, 0, o, _, _ => rfl
  | 0, g + 1, o, hf, _ => by
    unfold cutF
    rw [if_neg (by omega)]
  | f + 1, 0, o, _, hg => by
    unfold cutF
    rw [if_neg (by omega)]
  | f + 1, g + 1, o, hf, hg => by
    unfold cutF
    by_cases h : k < o.f1 - o.f0
    · rw [if_pos h, if_pos h, cutF_fuel hk f g _ (by show (o.f1 - (o.f0 + k)).toNat ≤ f; omega) (by show (o.f1 - (o.f0 + k)).toNat ≤ g; omega)]
    · rw [if_neg h, if_neg h]
theorem cut_big {k : Int} {o : PieceM} (hk : 1 ≤ k) (h : k < o.f1 - o.f0) : cutL k o = ⟨o.f0, o.f0 + k, o.f2, o.f3, o.f4, o.f5⟩ :: cutL k ⟨o.f0 + k, o.f1, o.f2, o.f3, o.f4, o.f5⟩ := by
  unfold cutL
  obtain ⟨f, hf⟩ : ∃ f, (o.f1 - o.f0).toNat = f + 1 := ⟨(o.f1 - o.f0).toNat - 1, by omega⟩
  rw [hf]
  conv => lhs; unfold cutF
  rw [if_pos h, cutF_fuel hk f _ _ (by show (o.f1 - (o.f0 + k)).toNat ≤ f; omega) (Nat.le_refl _)]
theorem cut_small {k : Int} {o : PieceM} (h : ¬ k < o.f1 - o.f0) : cutL k o = [o] := by
  unfold cutL
  cases (o.f1 - o.f0).toNat with
  | zero => rfl
  | succ f => unfold cutF; rw [if_neg h]
theorem cutL_ne (k : Int) (o : PieceM) : 1 ≤ (cutL k o).length := by
  unfold cutL
  cases (o.f1 - o.f0).toNat with
  | zero => exact Nat.le_refl _
  | succ f => unfold cutF; split <;> simp
theorem cutF_len {k : Int} (hk : 1 ≤ k) : ∀ (f : Nat) (o : PieceM), o.f0 < o.f1 → (o.f1 - o.f0).toNat ≤ f → ((cutF f k o).length : Int) = (o.f1 - o.f0 + k - 1) / k
  | 0, o, h0, hf => by omega
  | f + 1, o, h0, hf => by
    unfold cutF
    by_cases h : k < o.f1 - o.f0
    · rw [if_pos h, List.length_cons]
      have ih := cutF_len hk f ⟨o.f0 + k, o.f1, o.f2, o.f3, o.f4, o.f5⟩ (by show o.f0 + k < o.f1; omega) (by show (o.f1 - (o.f0 + k)).toNat ≤ f; omega)
      have e : o.f1 - o.f0 + k - 1 = (o.f1 - (o.f0 + k) + k - 1) + 1 * k := by omega
      have ih' : ((cutF f k ⟨o.f0 + k, o.f1, o.f2, o.f3, o.f4, o.f5⟩).length : Int) = (o.f1 - (o.f0 + k) + k - 1) / k := ih
      rw [e, Int.add_mul_ediv_right _ _ (by omega), ← ih']
      omega
    · rw [if_neg h]
      have e : (o.f1 - o.f0 + k - 1) / k = 1 := by
        have h1 : o.f1 - o.f0 + k - 1 = (o.f1 - o.f0 - 1) + 1 * k := by omega
        rw [h1, Int.add_mul_ediv_right _ _ (by omega), Int.ediv_eq_zero_of_lt (by omega) (by omega)]
        rfl
      rw [e]; rfl
theorem split_len {k : Int} (hk : 1 ≤ k) : ∀ (os : List PieceM), (∀ o ∈ os, o.f0 < o.f1) → ((splitL k os).length : Int) = cntS k os
  | [], _ => rfl
  | o :: os, h => by
    have h1 := cutF_len hk (o.f1 - o.f0).toNat o (h o (by simp)) (Nat.le_refl _)
    have h2 := split_len hk os (fun p hp => h p (by simp [hp]))
    show ((List.flatMap (cutL k) (o :: os)).length : Int) = _
    rw [List.flatMap_cons, List.length_append, Int.natCast_add]
    show ((cutL k o).length : Int) + ((splitL k os).length : Int) = (o.f1 - o.f0 + k - 1) / k + cntS k os
    rw [h2]
    congr 1
theorem split_ge (k : Int) : ∀ (os : List PieceM), os.length ≤ (splitL k os).length
  | [] => Nat.le_refl _
  | o :: os => by
    have h1 := cutL_ne k o
    have h2 := split_ge k os
    show os.length + 1 ≤ (List.flatMap (cutL k) (o :: os)).length
    rw [List.flatMap_cons, List.length_append]
    show _ ≤ (cutL k o).length + (splitL k os).length
    omega
theorem cnt_le {k : Int} (hk : 1 ≤ k) : ∀ (os : List PieceM) (u m : Int), chk u os = some m → 0 ≤ cntS k os ∧ cntS k os ≤ m - u
  | [], u, m, h => by cases h; simp [cntS]
  | o :: a, u, m, h => by
    by_cases hh : o.f0 = u ∧ vp o
    · rw [chk_cons hh.1 hh.2] at h
      have h1 := cnt_le hk a _ _ h
      have h2 := hh.2.1
      have h3 := hh.1
      have e1 : 0 ≤ (o.f1 - o.f0 + k - 1) / k := Int.ediv_nonneg (by omega) (by omega)
      have e2 : (o.f1 - o.f0 + k - 1) / k ≤ o.f1 - o.f0 := by
        have h4 : (o.f1 - o.f0 + k - 1) / k < o.f1 - o.f0 + 1 := by
          refine Int.ediv_lt_of_lt_mul (by omega) ?_
          have hs : 1 ≤ o.f1 - o.f0 := by omega
          have hp : 0 ≤ (o.f1 - o.f0 - 1) * (k - 1) := Int.mul_nonneg (by omega) (by omega)
          have ex : (o.f1 - o.f0 + 1) * k = (o.f1 - o.f0 - 1) * (k - 1) + (o.f1 - o.f0) + k - 1 + k := by
            generalize o.f1 - o.f0 = s
            rw [Int.sub_mul, Int.mul_sub, Int.add_mul]
            omega
          omega
        omega
      show 0 ≤ (o.f1 - o.f0 + k - 1) / k + cntS k a ∧ (o.f1 - o.f0 + k - 1) / k + cntS k a ≤ m - u
      omega
    · rw [chk_ill hh] at h; cases h
theorem cntS_app (k : Int) : ∀ (a b : List PieceM), cntS k (a ++ b) = cntS k a + cntS k b
  | [], b => by simp [cntS]
  | o :: a, b => by show _ + cntS k (a ++ b) = _ + cntS k a + cntS k b; rw [cntS_app k a b]; omega
theorem splitL_cons (k : Int) (o : PieceM) (os : List PieceM) : splitL k (o :: os) = cutL k o ++ splitL k os := List.flatMap_cons
set_option maxRecDepth 100000
set_option maxHeartbeats 8000000 in
theorem countOf_walk (B L : Nat) (u x k : Int) (ns : List (Nat × PieceM)) (w : World) (h : DL w B L u x ns) (hok : bOK u x (ns.map Prod.snd)) (hk : 1 ≤ k ∧ k ≤ 65535) :
    Calls Try.prog 52 #[.pointer (some ⟨L, 0, none⟩), .int .i64 k] w fun e w' => e = .returned (.int .i64 (cntS k (ns.map Prod.snd))) ∧ Below w.heap.size w w' := by
  obtain ⟨k1, k2⟩ := hk
  have HD := hide h; have HOK := hide hok
  have l3 := h.head.cell 3 _ rfl
  have hk0 : k ≠ 0 := by omega
  have hkb : (k == 0) = false := beq_eq_false_iff_ne.2 hk0
  clear h hok
  go_enter Try.func52, Try.ntmps52
  go_wp2_with fail
  clear l3
  go_loopw [5, 6] (fun s t w2 => ∃ xs ys : List (Nat × PieceM), Hid (ns = xs ++ ys) ∧ t = ptO (fstO ys none) ∧ s = .int .i64 (cntS k (xs.map Prod.snd)) ∧ Below w.heap.size w w2) (fun _ t _ => posOf (bks ns) t)
  case atStart => exact ⟨[], ns, hide rfl, rfl, rfl, Below.refl _ _⟩
  case round =>
    obtain ⟨xs, ys, HXY, rfl, rfl, hb⟩ := hrel
    cases ys with
    | nil =>
      have HF : Hid (cntS k (ns.map Prod.snd) = cntS k (xs.map Prod.snd)) := hide (by rw [HXY.out, List.append_nil])
      generalize cntS k (xs.map Prod.snd) = s at *
      simp only [show ptO (fstO ([] : List (Nat × PieceM)) none) = Value.pointer none from rfl]
      go_wp2_with fail
      go_ret
      exact ⟨ret_int HF.out.symm, hb⟩
    | cons p ys =>
      obtain ⟨c, q⟩ := p
      have HLN := hide (HD.out.nd)
      have HC := hide (show HoldV wr c (lpV q (lstO none xs) (fstO ys none)) lpT from by have h := HD.out; rw [HXY.out] at h; exact h.at.next hb)
      have HP1 : Hid (posOf (bks ns) (.pointer (some ⟨c, 0, none⟩)) = ys.length + 1) := hide (by rw [HXY.out]; exact pos_at (ys := (c, q) :: ys) (by rw [← HXY.out]; exact HLN.out))
      have HXY2 : Hid (ns = (xs ++ [(c, q)]) ++ ys) := hide (by rw [HXY.out]; simp)
      have HP2 : Hid (posOf (bks ns) (ptO (fstO ys none)) = ys.length) := hide (by rw [HXY2.out]; exact pos_at (by rw [← HXY2.out]; exact HLN.out))
      have HS2 : Hid (cntS k ((xs ++ [(c, q)]).map Prod.snd) = cntS k (xs.map Prod.snd) + (q.f1 - q.f0 + k - 1) / k) := hide (by rw [List.map_append, cntS_app]; simp [cntS])
      obtain ⟨s0, s1⟩ : 0 ≤ cntS k (xs.map Prod.snd) ∧ cntS k (xs.map Prod.snd) ≤ 1099511627776 := by
        have h := HOK.out
        rw [HXY.out, List.map_append] at h
        obtain ⟨m, h1, h2⟩ := chk_app _ _ _ _ h.2.2.2
        have h3 := cnt_le k1 _ _ _ h1
        have h4 := chk_le _ _ _ h2
        have := h.1; have := h.2.1
        omega
      obtain ⟨q0, q1, q2⟩ : 0 ≤ q.f0 ∧ q.f0 < q.f1 ∧ q.f1 ≤ 1099511627776 := bOK_piece HOK.out (by rw [HXY.out]; simp)
      have e0 : 0 ≤ (q.f1 - q.f0 + k - 1) / k := Int.ediv_nonneg (by omega) (by omega)
      have e1 : (q.f1 - q.f0 + k - 1) / k ≤ 1099511693312 := by
        have := Int.ediv_le_self (a := q.f1 - q.f0 + k - 1) k (show 0 ≤ q.f1 - q.f0 + k - 1 by omega)
        omega
      generalize cntS k (xs.map Prod.snd) = s at *
      simp only [show ptO (fstO ((c, q) :: ys) none) = Value.pointer (some ⟨c, 0, none⟩) from rfl]
      obtain ⟨x0, x1, x2, x3, x4, x5⟩ := q
      try dsimp only at q0 q1 q2 HS2 e0 e1
      have c0 := HC.out.cell 0 _ rfl; have c1 := HC.out.cell 1 _ rfl; have c2 := HC.out.cell 2 _ rfl; have c3 := HC.out.cell 3 _ rfl; have c4 := HC.out.cell 4 _ rfl; have c5 := HC.out.cell 5 _ rfl
      try dsimp only at c0 c1 c2 c3 c4 c5
      have CZ := hide (size_walk x0 x1 x2 x3 x4 x5 wr q0 q1 q2)
      have hnn : 0 ≤ x1 - x0 + k - 1 := by omega
      have HTD : Hid ((x1 - x0 + k - 1).tdiv k = (x1 - x0 + k - 1) / k) := hide (Int.tdiv_eq_ediv_of_nonneg hnn)
      go_wp2_with (go_at_call 42; refine CZ.out.mono ?_; rintro e w4 ⟨rfl, hb4⟩; have hbc : Below w.heap.size w w4 := hb.trans (hb4.mono hb.size); have c7' := (HC.out.next hb4).cell 7 _ rfl; clear hb4)
      exact ⟨⟨xs ++ [(c, PieceM.mk x0 x1 x2 x3 x4 x5)], ys, HXY2, rfl, by rw [HS2.out], hbc⟩, by rw [HP1.out, HP2.out]; omega⟩
set_option maxHeartbeats 8000000 in
theorem cut_walk (B L c : Nat) (u x k : Int) (xs ys : List (Nat × PieceM)) (q : PieceM) (w : World) (h : DL w B L u x (xs ++ (c, q) :: ys)) (hB : B ≤ w.heap.size) (hl : (xs ++ (c, q) :: ys).length ≤ 1048575) (q0 : 0 ≤ q.f0) (q2 : q.f0 + k ≤ 1099511627776) (hk : 1 ≤ k ∧ k ≤ 65535) :
    Calls Try.prog 53 #[.pointer (some ⟨L, 0, none⟩), .pointer (some ⟨c, 0, none⟩), .int .i64 k] w fun e w' => ∃ N, e = .returned (.tuple #[]) ∧ DL w' B L u x (xs ++ (c, ⟨q.f0, q.f0 + k, q.f2, q.f3, q.f4, q.f5⟩) :: (N, ⟨q.f0 + k, q.f1, q.f2, q.f3, q.f4, q.f5⟩) :: ys) ∧ Below B w w' := by
  obtain ⟨k1, k2⟩ := hk
  obtain ⟨x0, x1, x2, x3, x4, x5⟩ := q
  have q0' : 0 ≤ x0 := q0
  have q2' : x0 + k ≤ 1099511627776 := q2
  have hC := h.at
  have hcl := hC.lt
  have hcB : B ≤ c := h.lo c (by simp [bks])
  have c0 : w.cell? ⟨c, 0, none⟩ = some (.int .i64 x0) := hC.cell 0 _ rfl
  have c1 : w.cell? ⟨c, 1, none⟩ = some (.int .i64 x1) := hC.cell 1 _ rfl
  have c2 : w.cell? ⟨c, 2, none⟩ = some (.int .i64 x2) := hC.cell 2 _ rfl
  have c3 : w.cell? ⟨c, 3, none⟩ = some (.int .i64 x3) := hC.cell 3 _ rfl
  have c4 : w.cell? ⟨c, 4, none⟩ = some (.bool x4) := hC.cell 4 _ rfl
  have c5 : w.cell? ⟨c, 5, none⟩ = some (.bool x5) := hC.cell 5 _ rfl
  have cf := hC.frozen
  have hDa := h.put (⟨x0, x0 + k, x2, x3, x4, x5⟩ : PieceM) (hv_set hC 1 (.int .i64 (x0 + k))) (fun b hb _ => heap_setCell_other _ ⟨c, 1, none⟩ b _ hb)
  have hal := (Below.refl (w.setCell ⟨c, 1, none⟩ (.int .i64 (x0 + k))).heap.size (w.setCell ⟨c, 1, none⟩ (.int .i64 (x0 + k)))).alloc (Nat.le_refl _) (.cells #[.int .i64 (x0 + k), .int .i64 x1, .int .i64 x2, .int .i64 x3, .bool x4, .bool x5] 48)
  have HD1 := hide (hDa.next hal)
  have HP : Hid (HoldV ((w.setCell ⟨c, 1, none⟩ (.int .i64 (x0 + k))).alloc (.cells #[.int .i64 (x0 + k), .int .i64 x1, .int .i64 x2, .int .i64 x3, .bool x4, .bool x5] 48)) w.heap.size #[.int .i64 (x0 + k), .int .i64 x1, .int .i64 x2, .int .i64 x3, .bool x4, .bool x5] 48) := hide (by have := hv_new (w.setCell ⟨c, 1, none⟩ (.int .i64 (x0 + k))) #[.int .i64 (x0 + k), .int .i64 x1, .int .i64 x2, .int .i64 x3, .bool x4, .bool x5] 48; rw [World.size_setCell] at this; exact this)
  have HB1 := hide (((Below.refl B w).setCell (p := ⟨c, 1, none⟩) (by show B ≤ c; exact hcB) (.int .i64 (x0 + k))).alloc (by rw [World.size_setCell]; exact hB) (.cells #[.int .i64 (x0 + k), .int .i64 x1, .int .i64 x2, .int .i64 x3, .bool x4, .bool x5] 48))
  have hsz : ((w.setCell ⟨c, 1, none⟩ (.int .i64 (x0 + k))).alloc (.cells #[.int .i64 (x0 + k), .int .i64 x1, .int .i64 x2, .int .i64 x3, .bool x4, .bool x5] 48)).heap.size = w.heap.size + 1 := by rw [World.size_alloc, World.size_setCell]
  have hne : w.heap.size ≠ c := by omega
  have hne2 : c ≠ w.heap.size := by omega
  clear h hC q0 q2 hal hDa
  go_enter Try.func53, Try.ntmps53
  go_upto_region 3 with fail
  clear c0 c1 c2 c3 c4 c5 cf
  generalize (w.setCell ⟨c, 1, none⟩ (.int .i64 (x0 + k))).alloc (.cells #[.int .i64 (x0 + k), .int .i64 x1, .int .i64 x2, .int .i64 x3, .bool x4, .bool x5] 48) = W at *
  have CP := hide (put_walk B L u x (xs ++ [(c, (⟨x0, x0 + k, x2, x3, x4, x5⟩ : PieceM))]) ys ⟨x0 + k, x1, x2, x3, x4, x5⟩ W.drew (by rw [List.append_assoc]; exact HD1.out.drew) (by show B ≤ W.heap.size; omega) (by simp at hl ⊢; omega))
  rw [lstO_snoc, show ptO (some c) = Value.pointer (some ⟨c, 0, none⟩) from rfl] at CP
  have b0 : W.drew.cell? ⟨w.heap.size, 0, none⟩ = some (.int .i64 (x0 + k)) := HP.out.cell 0 _ rfl
  have b1 : W.drew.cell? ⟨w.heap.size, 1, none⟩ = some (.int .i64 x1) := HP.out.cell 1 _ rfl
  have b2 : W.drew.cell? ⟨w.heap.size, 2, none⟩ = some (.int .i64 x2) := HP.out.cell 2 _ rfl
  have b3 : W.drew.cell? ⟨w.heap.size, 3, none⟩ = some (.int .i64 x3) := HP.out.cell 3 _ rfl
  have b4 : W.drew.cell? ⟨w.heap.size, 4, none⟩ = some (.bool x4) := HP.out.cell 4 _ rfl
  have b5 : W.drew.cell? ⟨w.heap.size, 5, none⟩ = some (.bool x5) := HP.out.cell 5 _ rfl
  have c7 : W.drew.cell? ⟨c, 7, none⟩ = some (ptO (fstO ys none)) := HD1.out.at.cell 7 _ rfl
  refine region_tail 7 (by kernel_rfl) (by kernel_rfl) ?_
  obtain ⟨V, hVe⟩ : ∃ V, V = W.drew := ⟨_, rfl⟩
  have HBV : Hid (∀ W', Below B V W' → Below B w W') := hide (fun W' hW => HB1.out.trans (below_drew (by rw [← hVe]; exact hW)))
  rw [← hVe] at CP b0 b1 b2 b3 b4 b5 c7 ⊢
  clear hVe
  simp only [List.take_succ_cons, List.take_zero, List.drop_succ_cons, List.drop_zero]
  repeat (first | go_big_quiet_skip | (go_big_quiet_want; go_big_quiet_op; go_big_quiet_on))
  refine wpQuiet_nil ?_
  clear b0 b1 b2 b3 b4 b5 c7
  go_wp2_with (go_at_call 40; refine CP.out.mono ?_; rintro e w3 ⟨rfl, hD3, hb3, hs3⟩)
  go_end0
  rw [List.append_assoc] at hD3
  exact ⟨_, rfl, hD3, HBV.out _ hb3⟩
set_option maxRecDepth 100000
/-- How far on a pointer's piece begins. -/
def msP (x : Int) (t : Value) (w : World) : Nat := match t with
  | .pointer (some p) => (match w.cell? ⟨p.block, 0, none⟩ with | some (.int _ z) => (x - z).toNat + 1 | _ => 0)
  | _ => 0
theorem msP_some {x z : Int} {c : Nat} {w : World} (h : w.cell? ⟨c, 0, none⟩ = some (.int .i64 z)) : msP x (.pointer (some ⟨c, 0, none⟩)) w = (x - z).toNat + 1 := by
  show (match w.cell? ⟨c, 0, none⟩ with | some (.int _ z) => (x - z).toNat + 1 | _ => 0) = _
  rw [h]
theorem msP_lt {B L : Nat} {u x z : Int} {xs ys : List (Nat × PieceM)} {w : World} (h : DL w B L u x (xs ++ ys)) (hz : z < x) (hy : ∀ p ∈ ys.head?, z < p.2.f0 ∧ p.2.f0 ≤ x) : msP x (ptO (fstO ys none)) w < (x - z).toNat + 1 := by
  cases ys with
  | nil => show 0 < _; omega
  | cons p r =>
    obtain ⟨c, q⟩ := p
    have h1 := hy (c, q) rfl
    have h2 : msP x (.pointer (some ⟨c, 0, none⟩)) w = (x - q.f0).toNat + 1 := msP_some (h.at.cell 0 _ rfl)
    show msP x (.pointer (some ⟨c, 0, none⟩)) w < _
    have h3 : z < q.f0 ∧ q.f0 ≤ x := h1
    rw [h2]
    omega
theorem chk_head {os : List PieceM} {m x : Int} {z : Int} (h : chk m os = some x) (hz : z < m) : ∀ p ∈ os.head?, z < p.f0 ∧ p.f0 ≤ x := by
  cases os with
  | nil => intro p hp; cases hp
  | cons o r =>
    intro p hp
    have e : o = p := Option.some.inj hp
    subst e
    by_cases hh : o.f0 = m ∧ vp o
    · rw [chk_cons hh.1 hh.2] at h
      have h1 := chk_le _ _ _ h
      have h2 := hh.2.1
      omega
    · rw [chk_ill hh] at h; cases h
theorem head_snd {ys : List (Nat × PieceM)} {P : PieceM → Prop} (h : ∀ p ∈ (ys.map Prod.snd).head?, P p) : ∀ p ∈ ys.head?, P p.2 := by
  cases ys with
  | nil => intro p hp; cases hp
  | cons q r => intro p hp; have e : q = p := Option.some.inj hp; subst e; exact h q.2 rfl
set_option maxHeartbeats 8000000 in
theorem split_full (B L : Nat) (u x k : Int) (ns : List (Nat × PieceM)) (w : World) (h : DL w B L u x ns) (hok : bOK u x (ns.map Prod.snd)) (hk : 1 ≤ k ∧ k ≤ 65535) (hf : 4096 < cntS k (ns.map Prod.snd)) :
    Calls Try.prog 36 #[.pointer (some ⟨L, 0, none⟩), .int .i64 k] w fun e w' => e = .returned (.bool false) ∧ Below w.heap.size w w' := by
  have CC := hide (countOf_walk B L u x k ns w h hok hk)
  clear h hok hk
  generalize cntS k (ns.map Prod.snd) = s at *
  go_enter Try.func36, Try.ntmps36
  go_wp2_with (go_at_call 52; refine CC.out.mono ?_; rintro e w2 ⟨rfl, hw2⟩)
  go_ret
  exact ⟨rfl, hw2⟩
set_option maxHeartbeats 16000000 in
theorem split_yes (B L : Nat) (u x k : Int) (ns : List (Nat × PieceM)) (w : World) (h : DL w B L u x ns) (hB : B ≤ w.heap.size) (hok : bOK u x (ns.map Prod.snd)) (hk : 1 ≤ k ∧ k ≤ 65535) (hf : ¬ 4096 < cntS k (ns.map Prod.snd)) :
    Calls Try.prog 36 #[.pointer (some ⟨L, 0, none⟩), .int .i64 k] w fun e w' => ∃ ns2, e = .returned (.bool true) ∧ DL w' B L u x ns2 ∧ ns2.map Prod.snd = splitL k (ns.map Prod.snd) ∧ Below B w w' := by
  have CC := hide (countOf_walk B L u x k ns w h hok hk)
  have HD := hide h
  have HK := hide hk
  have HCH : Hid (chk u (ns.map Prod.snd) = some x) := hide hok.2.2.2
  have HU : Hid (0 ≤ u ∧ x ≤ 1099511627776) := hide ⟨hok.1, hok.2.1⟩
  have HLS : Hid ((splitL k (ns.map Prod.snd)).length ≤ 4096) := hide (by
    have h1 := split_len hk.1 (ns.map Prod.snd) (fun o ho => (bOK_piece hok ho).2.1)
    omega)
  obtain ⟨k1, k2⟩ := hk
  clear h hok
  obtain ⟨s, hs⟩ : ∃ s, s = cntS k (ns.map Prod.snd) := ⟨_, rfl⟩
  rw [← hs] at CC hf
  clear hs
  go_enter Try.func36, Try.ntmps36
  go_wp2_with (go_at_call 52; refine CC.out.mono ?_; rintro e w2 ⟨rfl, hw2⟩; have l3 := (HD.out.next hw2).head.cell 3 _ rfl)
  have HD2 := hide (HD.out.next hw2)
  have HB2 := hide (hw2.mono hB)
  clear hw2 CC HD l3
  go_loopw [5] (fun t w2 => ∃ (xs ys : List (Nat × PieceM)) (m : Int), t = ptO (fstO ys none) ∧ Hid (DL w2 B L u x (xs ++ ys)) ∧ Hid (xs.map Prod.snd ++ splitL k (ys.map Prod.snd) = splitL k (ns.map Prod.snd)) ∧ Hid (chk m (ys.map Prod.snd) = some x) ∧ 0 ≤ m ∧ Hid (Below B w w2)) (fun t w2 => msP x t w2)
  case atStart => exact ⟨[], ns, u, rfl, HD2, hide rfl, HCH, HU.out.1, HB2⟩
  case round =>
    obtain ⟨xs, ys, m, rfl, HD, HE, HC, hm, HB⟩ := hrel
    cases ys with
    | nil =>
      simp only [show ptO (fstO ([] : List (Nat × PieceM)) none) = Value.pointer none from rfl]
      go_wp2_with fail
      go_ret
      exact ⟨xs ++ [], rfl, HD.out, by rw [List.append_nil, ← HE.out]; simp [splitL], HB.out⟩
    | cons p ys =>
      obtain ⟨c, q⟩ := p
      have hC := HD.out.at
      obtain ⟨hq0, hqv, hqc⟩ : q.f0 = m ∧ vp q ∧ chk q.f1 (ys.map Prod.snd) = some x := by
        have h1 : chk m (q :: ys.map Prod.snd) = some x := HC.out
        by_cases hh : q.f0 = m ∧ vp q
        · rw [chk_cons hh.1 hh.2] at h1; exact ⟨hh.1, hh.2, h1⟩
        · rw [chk_ill hh] at h1; cases h1
      have HQC := hide hqc
      have HQV := hide hqv
      have hx1 := chk_le _ _ _ hqc
      have q0 : 0 ≤ q.f0 := by omega
      have q1 : q.f0 < q.f1 := hqv.1
      have q2 : q.f1 ≤ 1099511627776 := by have := HU.out.2; omega
      have HM1 : Hid (msP x (.pointer (some ⟨c, 0, none⟩)) wr = (x - q.f0).toNat + 1) := hide (msP_some (hC.cell 0 _ rfl))
      have HLL : Hid ((xs ++ (c, q) :: ys).length ≤ 4096) := hide (by
        have h1 := congrArg List.length HE.out
        rw [List.length_append, List.length_map] at h1
        have h2 := split_ge k (((c, q) :: ys).map Prod.snd)
        rw [List.length_map] at h2
        have := HLS.out
        rw [List.length_append]
        omega)
      have hcB : B ≤ c := HD.out.lo c (by simp [bks])
      have hbs := HB.out.size
      simp only [show ptO (fstO ((c, q) :: ys) none) = Value.pointer (some ⟨c, 0, none⟩) from rfl]
      clear hq0 hqv hqc
      obtain ⟨x0, x1, x2, x3, x4, x5⟩ := q
      try dsimp only at q0 q1 q2 hx1
      have c0 : wr.cell? ⟨c, 0, none⟩ = some (.int .i64 x0) := hC.cell 0 _ rfl
      have c1 : wr.cell? ⟨c, 1, none⟩ = some (.int .i64 x1) := hC.cell 1 _ rfl
      have c2 : wr.cell? ⟨c, 2, none⟩ = some (.int .i64 x2) := hC.cell 2 _ rfl
      have c3 : wr.cell? ⟨c, 3, none⟩ = some (.int .i64 x3) := hC.cell 3 _ rfl
      have c4 : wr.cell? ⟨c, 4, none⟩ = some (.bool x4) := hC.cell 4 _ rfl
      have c5 : wr.cell? ⟨c, 5, none⟩ = some (.bool x5) := hC.cell 5 _ rfl
      clear hC
      have CZ := hide (size_walk x0 x1 x2 x3 x4 x5 wr q0 q1 q2)
      by_cases hgt : k < x1 - x0
      · have CUT := hide (fun (W : World) (hW : Below wr.heap.size wr W) => cut_walk B L c u x k xs ys ⟨x0, x1, x2, x3, x4, x5⟩ W (HD.out.next hW) (by have := hW.size; omega) (by have := HLL.out; omega) q0 (by show x0 + k ≤ _; omega) ⟨k1, k2⟩)
        have hbig : cutL k (⟨x0, x1, x2, x3, x4, x5⟩ : PieceM) = ⟨x0, x0 + k, x2, x3, x4, x5⟩ :: cutL k ⟨x0 + k, x1, x2, x3, x4, x5⟩ := cut_big k1 hgt
        have HE2 : Hid (∀ N, (xs ++ [(c, (⟨x0, x0 + k, x2, x3, x4, x5⟩ : PieceM))]).map Prod.snd ++ splitL k (((N, (⟨x0 + k, x1, x2, x3, x4, x5⟩ : PieceM)) :: ys).map Prod.snd) = splitL k (ns.map Prod.snd)) := hide (fun N => by
          rw [← HE.out, List.map_cons, List.map_cons, splitL_cons, splitL_cons]
          show _ = xs.map Prod.snd ++ (cutL k (⟨x0, x1, x2, x3, x4, x5⟩ : PieceM) ++ splitL k (ys.map Prod.snd))
          rw [hbig]
          simp)
        have HCK : Hid (∀ N, chk (x0 + k) (((N, (⟨x0 + k, x1, x2, x3, x4, x5⟩ : PieceM)) :: ys).map Prod.snd) = some x) := hide (fun N => (chk_cons (a := x0 + k) (o := (⟨x0 + k, x1, x2, x3, x4, x5⟩ : PieceM)) (os := ys.map Prod.snd) rfl (show vp (⟨x0 + k, x1, x2, x3, x4, x5⟩ : PieceM) from ⟨(by show x0 + k < x1; omega), HQV.out.2⟩)).trans HQC.out)
        clear hbig
        go_wp2_with (go_at_call 42; refine CZ.out.mono ?_; rintro e w4 ⟨rfl, hb4⟩)
        refine (CUT.out w4 hb4).mono ?_
        rintro e w5 ⟨N, rfl, hD5, hb5⟩
        have HD5 : Hid (DL w5 B L u x ((xs ++ [(c, (⟨x0, x0 + k, x2, x3, x4, x5⟩ : PieceM))]) ++ (N, (⟨x0 + k, x1, x2, x3, x4, x5⟩ : PieceM)) :: ys)) := hide (by rw [List.append_assoc]; exact hD5)
        have HB5 : Hid (Below B w w5) := hide ((HB.out.trans (hb4.mono (by omega))).trans hb5)
        have c7 : w5.cell? ⟨c, 7, none⟩ = some (.pointer (some ⟨N, 0, none⟩)) := hD5.at.cell 7 _ rfl
        have HMS : Hid (msP x (.pointer (some ⟨N, 0, none⟩)) w5 = (x - (x0 + k)).toNat + 1) := hide (msP_some (HD5.out.at.cell 0 _ rfl))
        clear hD5 hb5 hb4 CUT CZ HD c0 c1 c2 c3 c4 c5
        go_wp2_with fail
        exact ⟨⟨xs ++ [(c, _)], (N, ⟨x0 + k, x1, x2, x3, x4, x5⟩) :: ys, x0 + k, rfl, HD5, hide (HE2.out N), hide (HCK.out N), by omega, HB5⟩, by rw [HM1.out, HMS.out]; show _ < (x - x0).toNat + 1; omega⟩
      · have hsm : cutL k (⟨x0, x1, x2, x3, x4, x5⟩ : PieceM) = [⟨x0, x1, x2, x3, x4, x5⟩] := cut_small hgt
        have HE2 : Hid ((xs ++ [(c, (⟨x0, x1, x2, x3, x4, x5⟩ : PieceM))]).map Prod.snd ++ splitL k (ys.map Prod.snd) = splitL k (ns.map Prod.snd)) := hide (by
          rw [← HE.out, List.map_cons, splitL_cons]
          show _ = xs.map Prod.snd ++ (cutL k (⟨x0, x1, x2, x3, x4, x5⟩ : PieceM) ++ splitL k (ys.map Prod.snd))
          rw [hsm]
          simp)
        have HDN : Hid (∀ W, Below wr.heap.size wr W → DL W B L u x ((xs ++ [(c, (⟨x0, x1, x2, x3, x4, x5⟩ : PieceM))]) ++ ys) ∧ Below B w W ∧ W.cell? ⟨c, 7, none⟩ = some (ptO (fstO ys none)) ∧ msP x (ptO (fstO ys none)) W < (x - x0).toNat + 1) := hide (fun W hW => by
          have hd := HD.out.next hW
          have hd2 : DL W B L u x ((xs ++ [(c, (⟨x0, x1, x2, x3, x4, x5⟩ : PieceM))]) ++ ys) := by rw [List.append_assoc]; exact hd
          refine ⟨hd2, HB.out.trans (hW.mono (by omega)), hd.at.cell 7 _ rfl, msP_lt hd2 (by omega) (head_snd (P := fun o => x0 < o.f0 ∧ o.f0 ≤ x) (chk_head HQC.out q1))⟩)
        clear hsm
        go_wp2_with (go_at_call 42; refine CZ.out.mono ?_; rintro e w4 ⟨rfl, hb4⟩; have c7 := (HDN.out w4 hb4).2.2.1)
        exact ⟨⟨xs ++ [(c, _)], ys, x1, rfl, hide (HDN.out _ hb4).1, HE2, hide HQC.out, by omega, hide (HDN.out _ hb4).2.1⟩, by rw [HM1.out]; exact (HDN.out _ hb4).2.2.2⟩
set_option maxRecDepth 100000
/-- What is wanted of BoardSplit. -/
def BoardSplitP (f : Nat) (Pre : World → Prop) (x0_0 : Int) (x0_1 : Int) (z0_0 : List PieceM) (m1 : Int) (y0_0 : Int) (y0_1 : Int) (L0_0 : List PieceM) (C1 : Int) : Prop :=
  ∀ (a0_0 : Option Addr) (n0_0 c0_0 : Nat) (W : World), z0_0.length = n0_0 → ArrP W a0_0 (z0_0.flatMap valPiece) → n0_0 ≤ c0_0 → n0_0 ≤ 1048576 → Pre W → Calls Try.prog f #[.agg #[.int .i64 x0_0, .int .i64 x0_1, .slice a0_0 n0_0 c0_0], .int .i64 m1] W fun e w' => ∃ v0_0 : Value, e = .returned (.tuple #[.agg #[.int .i64 y0_0, .int .i64 y0_1, v0_0], .int .i64 C1]) ∧ OwnP w' W.heap.size v0_0 L0_0 ∧ Below W.heap.size W w'
end Go.Proofs.Ytlkbmdkidpfioaa
