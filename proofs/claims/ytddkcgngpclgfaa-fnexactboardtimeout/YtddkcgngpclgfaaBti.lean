/-
Contracts of functions of this seat.
-/
import Derived.Test.YtddkcgngpclgfaaRows
import Derived.WalkKit
import Derived.ProofKit
import Derived.OpenShut
import Derived.Test.YtddkcgngpclgfaaBl11
import Derived.Test.YtddkcgngpclgfaaL1BoardTimeout
namespace Go.Proofs.Ytddkcgngpclgfaa
open Go.ChangeShapes Go.WideShapes Go.ChangeAt Go.RowKit
set_option linter.unusedVariables false
set_option maxRecDepth 100000
set_option maxHeartbeats 4000000 in
theorem implTimeout_yes {u x : Int} {os : List PieceM} (hok : bOK u x os) : BoardTimeoutP 21 (fun _ => True) u x os u x (os.map lostP) 0 := by
  intro a n cap w hn ha hc hm _
  obtain ⟨hb2, hX, hR⟩ := two_boxes w #[.int .i64 u, .int .i64 x, .slice a n cap] #[.int .i64 0, .int .i64 0, .slice none 0 0] 29 29
  have HB2 := hide hb2; have HX := hide hX; have HR := hide hR
  have k0 := hX.cell 0 _ rfl; have k1 := hX.cell 1 _ rfl; have k2 := hX.cell 2 _ rfl
  have CV := hide (newPieceList_yes u x a n cap os ((w.alloc (.cells #[.int .i64 u, .int .i64 x, .slice a n cap] 29)).alloc (.cells #[.int .i64 0, .int .i64 0, .slice none 0 0] 29)) hn (ha.below hb2 (Nat.le_refl _)) hm hok)
  have HOK := hide hok
  have HN := hide hn
  have hV := hR.lt
  clear hn ha hok hb2 hX hR
  go_enter Try.func21, Try.ntmps21
  go_wp2_with fail
  generalize (w.alloc (.cells #[.int .i64 u, .int .i64 x, .slice a n cap] 29)).alloc (.cells #[.int .i64 0, .int .i64 0, .slice none 0 0] 29) = V at *
  refine CV.out.mono ?_
  rintro e w1 ⟨L, ns, rfl, hD, hM, hw1⟩
  have CL := hide (loseAll_walk _ L u x ns w1 hD hw1.size (by rw [hM]; exact HOK.out))
  have HM := hide hM
  have HR1 := hide (HR.out.next hw1)
  have HB1 : Hid (Below w.heap.size w w1) := hide (HB2.out.trans (hw1.mono HB2.out.size))
  have hV1 := hw1.size
  clear hD hM hw1 CV k0 k1 k2 HB2 HX HR
  go_wp2_with fail
  refine CL.out.mono ?_
  rintro e w2 ⟨rfl, hD2, hw2⟩
  have hlen : (chgN lostP ns).length ≤ 1048576 := by have := congrArg List.length HM.out; rw [List.length_map] at this; unfold chgN; rw [List.length_map, this, HN.out]; exact hm
  have CB := hide (board_walk _ L u x (chgN lostP ns) w2 hD2 hlen)
  rw [chgN_snd, HM.out] at CB
  have HR2 := hide (HR1.out.below hw2 hV)
  have HB3 : Hid (Below w.heap.size w w2) := hide (HB1.out.trans (hw2.mono (by omega)))
  have hV2 := hw2.size
  clear hD2 hw2 hlen CL HR1 HB1
  go_wp2_with fail
  refine CB.out.mono ?_
  rintro e w3 ⟨v, rfl, hO, hw3⟩
  obtain ⟨bz, nz, rfl, _⟩ := arrP_own hO
  have HR3 := hide (HR2.out.next hw3)
  have HO := hide (ownP_mono hO (C := w.heap.size + 2) (by omega))
  have HB4 : Hid (Below w.heap.size w w3) := hide (HB3.out.trans (hw3.mono HB3.out.size))
  have r0 := HR3.out.cell 0 _ rfl; have r1 := HR3.out.cell 1 _ rfl; have r2 := HR3.out.cell 2 _ rfl; have rf := HR3.out.frozen
  clear hO hw3 CB HB3 HR2
  go_wp2_with fail
  exact bodyPost_ret (v := .tuple #[.agg #[.int .i64 u, .int .i64 x, .slice bz (os.map lostP).length nz], .int .i64 0]) (by simp [results, Try.results21, go_sem, r0, r1, r2]) rfl ⟨_, rfl, ownP_mono (ownP_gr HO.out (gr_set (gr_set (gr_set (grown_reflp _ _) 0 _) 1 _) 2 _) (Nat.lt_succ_self _)) (by omega), below_gr HB4.out (gr_set (gr_set (gr_set (grown_reflp _ _) 0 _) 1 _) 2 _) HB4.out.size (Nat.le_succ _)⟩
set_option maxHeartbeats 8000000 in
theorem specTimeout_yes {u x : Int} {os : List PieceM} (hok : bOK u x os) : BoardTimeoutP 20 (fun _ => True) u x os u x (os.map lostP) 0 := by
  intro a n cap w hn ha hc hm _
  obtain ⟨hb2, hX, hR⟩ := two_boxes w #[.int .i64 u, .int .i64 x, .slice a n cap] #[.int .i64 0, .int .i64 0, .slice none 0 0] 29 29
  have HB2 := hide hb2; have HX := hide hX; have HR := hide hR
  have k0 := hX.cell 0 _ rfl; have k1 := hX.cell 1 _ rfl; have k2 := hX.cell 2 _ rfl
  have CV := hide (l15OK_walk u x a n cap os ((w.alloc (.cells #[.int .i64 u, .int .i64 x, .slice a n cap] 29)).alloc (.cells #[.int .i64 0, .int .i64 0, .slice none 0 0] 29)) hn (ha.below hb2 (Nat.le_refl _)) hm)
  rw [bokB_yes hok] at CV
  have HN := hide hn
  have HA := hide (ha.below hb2 (Nat.le_refl _))
  have hV : w.heap.size + 1 < ((w.alloc (.cells #[.int .i64 u, .int .i64 x, .slice a n cap] 29)).alloc (.cells #[.int .i64 0, .int .i64 0, .slice none 0 0] 29)).heap.size := hR.lt
  clear hn ha hok hb2 hX hR
  go_enter Try.func20, Try.ntmps20
  go_wp2_with fail
  generalize (w.alloc (.cells #[.int .i64 u, .int .i64 x, .slice a n cap] 29)).alloc (.cells #[.int .i64 0, .int .i64 0, .slice none 0 0] 29) = V at *
  refine CV.out.mono ?_
  rintro e w1 ⟨rfl, hw1⟩
  have CC := hide (l15Copy_walk u x a n cap os w1 HN.out (HA.out.below hw1 (Nat.le_refl _)) hm)
  have HR1 := hide (HR.out.next hw1)
  have HX1 := hide (HX.out.next hw1)
  have HB1 : Hid (Below w.heap.size w w1) := hide (HB2.out.trans (hw1.mono HB2.out.size))
  have hV1 := hw1.size
  clear hw1 CV k0 k1 k2 HB2 HX HR
  have k0 := HX1.out.cell 0 _ rfl; have k1 := HX1.out.cell 1 _ rfl; have k2 := HX1.out.cell 2 _ rfl
  go_wp2_with fail
  refine CC.out.mono ?_
  rintro e w2 ⟨v, rfl, hO, hw2⟩
  obtain ⟨bz, nz, rfl⟩ := hO.form
  have HR2 := hide (HR1.out.next hw2)
  have HX2 := hide (HX1.out.next hw2)
  have HB3 : Hid (Below w.heap.size w w2) := hide (HB1.out.trans (hw2.mono HB1.out.size))
  have HO := hide hO
  have hBB : w.heap.size + 2 ≤ w1.heap.size + 2 := by omega
  clear hO hw2 CC HB1 HR1 HX1 k0 k1 k2
  have k0 := HX2.out.cell 0 _ rfl; have k1 := HX2.out.cell 1 _ rfl; have k2 := HX2.out.cell 2 _ rfl; have kf := HX2.out.frozen
  go_upto_region 4 with fail
  have HX3 := hide (hv_set (hv_set (hv_set HX2.out 0 (.int .i64 u)) 1 (.int .i64 x)) 2 (.slice bz n nz))
  have HR3 := hide (hv_other (hv_other (hv_other HR2.out (C := w.heap.size) (by omega) 0 (.int .i64 u)) (C := w.heap.size) (by omega) 1 (.int .i64 x)) (C := w.heap.size) (by omega) 2 (.slice bz n nz))
  have hg3 : w2.grownBy (((w2.setCell ⟨w.heap.size, 0, none⟩ (.int .i64 u)).setCell ⟨w.heap.size, 1, none⟩ (.int .i64 x)).setCell ⟨w.heap.size, 2, none⟩ (.slice bz n nz)) (some w.heap.size) := gr_set (gr_set (gr_set (grown_reflp _ _) 0 _) 1 _) 2 _
  have HO3 := hide (row_gr HO.out hg3 (by omega))
  have HB4 := hide (below_gr HB3.out hg3 HB3.out.size (Nat.le_refl _))
  clear k0 k1 k2 kf HX2 HR2 HO HB3 hg3
  generalize ((w2.setCell ⟨w.heap.size, 0, none⟩ (.int .i64 u)).setCell ⟨w.heap.size, 1, none⟩ (.int .i64 x)).setCell ⟨w.heap.size, 2, none⟩ (.slice bz n nz) = W at *
  have hBB2 : w.heap.size + 2 ≤ w1.heap.size + 2 := hBB
  generalize w1.heap.size + 2 = BB at *
  go_wp2_with fail
  go_loopw [4] (fun t w2 => ∃ i : Nat, i ≤ n ∧ t = .int .i64 i ∧ Hid (RowP w2 BB (.slice bz n nz) n (chgL lostP os i)) ∧ Hid (HoldV w2 w.heap.size #[.int .i64 u, .int .i64 x, .slice bz n nz] 29) ∧ Hid (HoldV w2 (w.heap.size + 1) #[.int .i64 0, .int .i64 0, .slice none 0 0] 29) ∧ Hid (Below w.heap.size w w2)) (fun t _ => n - (intOf t).toNat)
  case atStart => exact ⟨0, Nat.zero_le _, rfl, hide (by rw [chgL_zero]; exact HO3.out), HX3, HR3, HB4⟩
  case round =>
    obtain ⟨i, hi, rfl, HO, HX, HR, HB⟩ := hrel
    have k0 := HX.out.cell 0 _ rfl; have k1 := HX.out.cell 1 _ rfl; have k2 := HX.out.cell 2 _ rfl
    by_cases hlt : i < n
    · have hio : i < os.length := by rw [HN.out]; exact hlt
      obtain ⟨g, cp, e, hgB, hgl⟩ := HO.out.some (by omega)
      injection e with e1 e2 e3
      subst e1 e3
      have hl : i < (chgL lostP os i).length := by rw [chgL_len _ _ _ (by omega)]; exact hio
      have hget := chgL_get lostP os i hio hl
      have hcl : (chgL lostP os i).length = n := by rw [chgL_len _ _ _ (by omega)]; exact HN.out
      have c5 := HO.out.at hcl hl (j := 5) (by omega)
      have c4 := HO.out.at hcl hl (j := 4) (by omega)
      have cf := row_frozen HO.out
      have o1 := HO.out.put hl (j := 5) (by omega) (.bool true) ⟨os[i].f0, os[i].f1, os[i].f2, os[i].f3, os[i].f4, true⟩ (by rw [hget]; rfl)
      have o2 := o1.put (i := i) (j := 4) (by rw [List.length_set]; exact hl) (by omega) (.bool false) (lostP os[i]) (by rw [List.getElem_set_self]; rfl)
      rw [List.set_set, chgL_set lostP os i hio] at o2
      have hne : w.heap.size ≠ g := by omega
      have HO2 := hide o2
      have HX2 := hide (hv_other (hv_other HX.out (C := g) (by omega) (i * 6 + 5) (.bool true)) (C := g) (by omega) (i * 6 + 4) (.bool false))
      have HR2 := hide (hv_other (hv_other HR.out (C := g) (by omega) (i * 6 + 5) (.bool true)) (C := g) (by omega) (i * 6 + 4) (.bool false))
      have HB2 := hide ((HB.out.setCell (p := ⟨g, i * 6 + 5, none⟩) (by show w.heap.size ≤ g; omega) (.bool true)).setCell (p := ⟨g, i * 6 + 4, none⟩) (by show w.heap.size ≤ g; omega) (.bool false))
      rw [hget] at c5 c4
      have c5' : wr.cell? ⟨g, i * 6 + 5, none⟩ = some (.bool os[i].f5) := c5
      have c4' : wr.cell? ⟨g, i * 6 + 4, none⟩ = some (.bool os[i].f4) := c4
      clear o1 o2 c5 c4 HO hcl hget hl hgB hgl HB HR
      generalize os[i].f5 = b5 at *
      generalize os[i].f4 = b4 at *
      go_wp2_with fail
      exact ⟨⟨i + 1, by omega, by go_num, HO2, HX2, HR2, HB2⟩, by simp [intOf]; omega⟩
    · have hin : i = n := by omega
      have HO2 := hide HO.out
      rw [hin, chgL_all _ _ _ (by rw [HN.out]; exact Nat.le_refl _)] at HO2
      have r0 := HR.out.cell 0 _ rfl; have r1 := HR.out.cell 1 _ rfl; have r2 := HR.out.cell 2 _ rfl; have rf := HR.out.frozen
      clear HO HX HR
      go_wp2_with fail
      exact bodyPost_ret (v := .tuple #[.agg #[.int .i64 u, .int .i64 x, .slice bz n nz], .int .i64 0]) (by simp [results, Try.results20, go_sem, r0, r1, r2]) rfl ⟨_, rfl, ownP_mono (row_own (row_gr HO2.out (gr_set (gr_set (gr_set (grown_reflp _ _) 0 _) 1 _) 2 _) (by omega)) (by rw [List.length_map, HN.out])) (by omega), below_gr HB.out (gr_set (gr_set (gr_set (grown_reflp _ _) 0 _) 1 _) 2 _) HB.out.size (Nat.le_succ _)⟩
end Go.Proofs.Ytddkcgngpclgfaa
