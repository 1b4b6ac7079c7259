/-
Contracts of functions of this seat.
-/
import Derived.Test.YtddkcgngpclgfaaRows
import Derived.WalkKit
import Derived.ProofKit
import Derived.OpenShut
import Derived.Test.YtddkcgngpclgfaaBf0
namespace Go.Proofs.Ytddkcgngpclgfaa
open Go.ChangeShapes Go.WideShapes Go.ChangeAt Go.RowKit
set_option linter.unusedVariables false
set_option maxRecDepth 100000
def A7f (X g n nz : Nat) (u x x0 x1 : Int) : Nat → Value → World → Prop
  | 0, v, _ => v = .agg #[.int .i64 u, .int .i64 x, .slice (some ⟨g, 0, none⟩) n nz]
  | 1, v, _ => v = .pointer (some ⟨X, 2, none⟩)
  | 2, v, _ => v = .slice (some ⟨g, 0, none⟩) n nz
  | 3, v, _ => v = .pointer (some ⟨g, 0, none⟩)
  | 4, v, _ => v = .pointer (some ⟨g, 1, none⟩)
  | 5, v, _ => v = .int .i64 x1
  | 6, v, _ => v = .pointer (some ⟨X, 2, none⟩)
  | 7, v, _ => v = .slice (some ⟨g, 0, none⟩) n nz
  | 8, v, _ => v = .pointer (some ⟨g, 0, none⟩)
  | 9, v, _ => v = .pointer (some ⟨g, 0, none⟩)
  | 10, v, _ => v = .int .i64 x0
  | 11, v, _ => v = .int .i64 (x1 - x0)
  | 12, _, W => HoldV W (X + 1) #[.int .i64 u, .int .i64 x, .slice (some ⟨g, 0, none⟩) n nz] 29
  | 13, v, _ => v = .int .i64 (x1 - x0)
  | _, _, _ => True
theorem A7f_kept {X g n nz : Nat} {u x x0 x1 : Int} : ∀ (i : Nat) (v : Value) (W W' : World), (W.grownBy W' (some (X + 1)) ∧ (HoldV W (X + 1) #[.int .i64 u, .int .i64 x, .slice (some ⟨g, 0, none⟩) n nz] 29 → HoldV W' (X + 1) #[.int .i64 u, .int .i64 x, .slice (some ⟨g, 0, none⟩) n nz] 29)) → A7f X g n nz u x x0 x1 i v W → A7f X g n nz u x x0 x1 i v W' := by
  intro i v W W' hg h
  unfold A7f at h ⊢
  split at h
  all_goals first
    | exact h
    | exact hg.2 h
/-- What stays at the return. -/
structure S7f (w W : World) (BB g n nz : Nat) (u x : Int) (os : List PieceM) : Prop where
  bel : Below w.heap.size w W
  box : HoldV W w.heap.size #[.int .i64 u, .int .i64 x, .slice (some ⟨g, 0, none⟩) n nz] 29
  res : HoldV W (w.heap.size + 1) #[.int .i64 0, .int .i64 0, .slice none 0 0] 29 ∨ HoldV W (w.heap.size + 1) #[.int .i64 u, .int .i64 x, .slice (some ⟨g, 0, none⟩) n nz] 29
  row : RowP W BB (.slice (some ⟨g, 0, none⟩) n nz) n os

set_option maxHeartbeats 16000000 in
theorem specFirst_yes {u x : Int} {os : List PieceM} (hok : bOK u x os) : BoardFirstP 18 (fun _ => True) u x os u x (firstL os) (firstN os) 0 := by
  intro a n cap w hn ha hc hm _
  obtain ⟨hb2, hX, hR⟩ := two_boxes w #[.int .i64 u, .int .i64 x, .slice a n cap] #[.int .i64 0, .int .i64 0, .slice none 0 0] 29 29
  have HB2 := hide hb2; have HX := hide hX; have HR := hide hR
  have k0 := hX.cell 0 _ rfl; have k1 := hX.cell 1 _ rfl; have k2 := hX.cell 2 _ rfl
  have CV := hide (l15OK_walk u x a n cap os ((w.alloc (.cells #[.int .i64 u, .int .i64 x, .slice a n cap] 29)).alloc (.cells #[.int .i64 0, .int .i64 0, .slice none 0 0] 29)) hn (ha.below hb2 (Nat.le_refl _)) hm)
  rw [bokB_yes hok] at CV
  have HN := hide hn
  have HOK := hide hok
  have HA := hide (ha.below hb2 (Nat.le_refl _))
  have hV : w.heap.size + 1 < ((w.alloc (.cells #[.int .i64 u, .int .i64 x, .slice a n cap] 29)).alloc (.cells #[.int .i64 0, .int .i64 0, .slice none 0 0] 29)).heap.size := hR.lt
  obtain ⟨fl, hfl⟩ : ∃ fl, fl = firstL os := ⟨_, rfl⟩
  obtain ⟨fn, hfn⟩ : ∃ fn, fn = firstN os := ⟨_, rfl⟩
  rw [← hfl, ← hfn]
  have HFL := hide hfl; have HFN := hide hfn
  clear hn ha hok hb2 hX hR hfl hfn
  go_enter Try.func18, Try.ntmps18
  go_wp2_with fail
  generalize (w.alloc (.cells #[.int .i64 u, .int .i64 x, .slice a n cap] 29)).alloc (.cells #[.int .i64 0, .int .i64 0, .slice none 0 0] 29) = V at *
  refine CV.out.mono ?_
  rintro e w1 ⟨rfl, hw1⟩
  have CC := hide (l15Copy_walk u x a n cap os w1 HN.out (HA.out.below hw1 (Nat.le_refl _)) hm)
  have HR1 := hide (HR.out.next hw1)
  have HX1 := hide (HX.out.next hw1)
  have HB1 : Hid (Below w.heap.size w w1) := hide (HB2.out.trans (hw1.mono HB2.out.size))
  have hV1 := hw1.size
  clear hw1 CV k0 k1 k2 HB2 HX HR
  have k0 := HX1.out.cell 0 _ rfl; have k1 := HX1.out.cell 1 _ rfl; have k2 := HX1.out.cell 2 _ rfl
  go_wp2_with fail
  refine CC.out.mono ?_
  rintro e w2 ⟨v, rfl, hO, hw2⟩
  obtain ⟨bz, nz, rfl⟩ := hO.form
  have HR2 := hide (HR1.out.next hw2)
  have HX2 := hide (HX1.out.next hw2)
  have HB3 : Hid (Below w.heap.size w w2) := hide (HB1.out.trans (hw2.mono HB1.out.size))
  have HO := hide hO
  have hBB : w.heap.size + 2 ≤ w1.heap.size + 2 := by omega
  clear hO hw2 CC HB1 HR1 HX1 k0 k1 k2
  have k0 := HX2.out.cell 0 _ rfl; have k1 := HX2.out.cell 1 _ rfl; have k2 := HX2.out.cell 2 _ rfl; have kf := HX2.out.frozen
  go_upto_region 4 with fail
  have HX3 := hide (hv_set (hv_set (hv_set HX2.out 0 (.int .i64 u)) 1 (.int .i64 x)) 2 (.slice bz n nz))
  have HR3 := hide (hv_other (hv_other (hv_other HR2.out (C := w.heap.size) (by omega) 0 (.int .i64 u)) (C := w.heap.size) (by omega) 1 (.int .i64 x)) (C := w.heap.size) (by omega) 2 (.slice bz n nz))
  have hg3 : w2.grownBy (((w2.setCell ⟨w.heap.size, 0, none⟩ (.int .i64 u)).setCell ⟨w.heap.size, 1, none⟩ (.int .i64 x)).setCell ⟨w.heap.size, 2, none⟩ (.slice bz n nz)) (some w.heap.size) := gr_set (gr_set (gr_set (grown_reflp _ _) 0 _) 1 _) 2 _
  have HO3 := hide (row_gr HO.out hg3 (by omega))
  have HB4 := hide (below_gr HB3.out hg3 HB3.out.size (Nat.le_refl _))
  clear k0 k1 k2 kf HX2 HR2 HO HB3 hg3
  generalize ((w2.setCell ⟨w.heap.size, 0, none⟩ (.int .i64 u)).setCell ⟨w.heap.size, 1, none⟩ (.int .i64 x)).setCell ⟨w.heap.size, 2, none⟩ (.slice bz n nz) = W at *
  have hBB2 : w.heap.size + 2 ≤ w1.heap.size + 2 := hBB
  generalize w1.heap.size + 2 = BB at *
  have k0 := HX3.out.cell 0 _ rfl; have k1 := HX3.out.cell 1 _ rfl; have k2 := HX3.out.cell 2 _ rfl
  have r0 := HR3.out.cell 0 _ rfl; have r1 := HR3.out.cell 1 _ rfl; have r2 := HR3.out.cell 2 _ rfl; have rf := HR3.out.frozen
  cases os with
  | nil =>
    have hn0 : n = 0 := by have := HN.out; simpa using this.symm
    subst hn0
    go_wp2_with fail
    exact bodyPost_ret (v := .tuple #[.agg #[.int .i64 u, .int .i64 x, .slice bz 0 nz], .int .i64 0, .int .i64 0]) (by simp [results, Try.results18, go_sem, r0, r1, r2]) rfl ⟨_, by rw [HFN.out]; rfl, by rw [HFL.out]; exact ownP_mono (row_own (row_gr HO3.out (gr_set (gr_set (gr_set (grown_reflp _ _) 0 _) 1 _) 2 _) (by omega)) rfl) (by omega), below_gr HB4.out (gr_set (gr_set (gr_set (grown_reflp _ _) 0 _) 1 _) 2 _) HB4.out.size (Nat.le_succ _)⟩
  | cons q os =>
    have hnp : 0 < n := by rw [← HN.out]; simp
    have hn0 : (n == 0) = false := by rw [beq_eq_false_iff_ne]; omega
    have hn1 : ((n : Int) == 0) = false := by rw [beq_eq_false_iff_ne]; omega
    obtain ⟨g, cp, e, hgB, hgl⟩ := HO3.out.some hnp
    injection e with e1 e2 e3
    subst e1 e3
    obtain ⟨q0, q1, q2⟩ : 0 ≤ q.f0 ∧ q.f0 < q.f1 ∧ q.f1 ≤ 1099511627776 := bOK_piece HOK.out (by simp)
    obtain ⟨x0, x1, x2, x3, x4, x5⟩ := q
    dsimp only at q0 q1 q2
    have c0 : W.cell? ⟨g, 0, none⟩ = some (.int .i64 x0) := HO3.out.at HN.out (i := 0) (j := 0) (by simp) (by omega)
    have c1 : W.cell? ⟨g, 1, none⟩ = some (.int .i64 x1) := HO3.out.at HN.out (i := 0) (j := 1) (by simp) (by omega)
    have c4 : W.cell? ⟨g, 4, none⟩ = some (.bool x4) := HO3.out.at HN.out (i := 0) (j := 4) (by simp) (by omega)
    have c5 : W.cell? ⟨g, 5, none⟩ = some (.bool x5) := HO3.out.at HN.out (i := 0) (j := 5) (by simp) (by omega)
    have cf := row_frozen HO3.out
    cases hw : (!x4 && !x5) with
    | false =>
      have HV : Hid (firstN ((⟨x0, x1, x2, x3, x4, x5⟩ : PieceM) :: os) = 0) := hide (by show (if x4 = false ∧ x5 = false then _ else _) = _; rw [if_neg (by cases x4 <;> cases x5 <;> simp_all)])
      have HL2 : Hid (firstL ((⟨x0, x1, x2, x3, x4, x5⟩ : PieceM) :: os) = (⟨x0, x1, x2, x3, x4, x5⟩ : PieceM) :: os) := hide (by show (if x4 = false ∧ x5 = false then _ else _) :: _ = _; rw [if_neg (by cases x4 <;> cases x5 <;> simp_all)])
      replace HFN := hide (HFN.out.trans HV.out)
      replace HFL := hide (HFL.out.trans HL2.out)
      clear HV HL2
      have HFin := hide (fun (W' : World) (hg : W.grownBy W' (some (w.heap.size + 1))) => (⟨ownP_mono (row_own (row_gr HO3.out hg (by omega)) HN.out) (by omega), below_gr HB4.out hg HB4.out.size (Nat.le_succ _)⟩ : OwnP W' w.heap.size _ _ ∧ Below w.heap.size w W'))
      cases x4 with
      | true =>
        clear hw
        go_wp2_with fail
        exact bodyPost_ret (v := .tuple #[.agg #[.int .i64 u, .int .i64 x, .slice (some ⟨g, 0, none⟩) n nz], .int .i64 0, .int .i64 0]) (by simp [results, Try.results18, go_sem, r0, r1, r2]) rfl ⟨_, by rw [HFN.out], by rw [HFL.out]; exact (HFin.out _ (gr_set (gr_set (gr_set (grown_reflp _ _) 0 _) 1 _) 2 _)).1, (HFin.out _ (gr_set (gr_set (gr_set (grown_reflp _ _) 0 _) 1 _) 2 _)).2⟩
      | false =>
        have h5 : x5 = true := by cases x5 <;> simp_all
        subst h5
        clear hw
        go_wp2_with fail
        exact bodyPost_ret (v := .tuple #[.agg #[.int .i64 u, .int .i64 x, .slice (some ⟨g, 0, none⟩) n nz], .int .i64 0, .int .i64 0]) (by simp [results, Try.results18, go_sem, r0, r1, r2]) rfl ⟨_, by rw [HFN.out], by rw [HFL.out]; exact (HFin.out _ (gr_set (gr_set (gr_set (grown_reflp _ _) 0 _) 1 _) 2 _)).1, (HFin.out _ (gr_set (gr_set (gr_set (grown_reflp _ _) 0 _) 1 _) 2 _)).2⟩
    | true =>
      have HV : Hid (firstN ((⟨x0, x1, x2, x3, x4, x5⟩ : PieceM) :: os) = x1 - x0) := hide (by show (if x4 = false ∧ x5 = false then _ else _) = _; rw [if_pos (by cases x4 <;> cases x5 <;> simp_all)])
      have HL2 : Hid (firstL ((⟨x0, x1, x2, x3, x4, x5⟩ : PieceM) :: os) = (⟨x0, x1, x2, x3, false, true⟩ : PieceM) :: os) := hide (by show (if x4 = false ∧ x5 = false then _ else _) :: _ = _; rw [if_pos (by cases x4 <;> cases x5 <;> simp_all)]; rfl)
      have h4 : x4 = false := by cases x4 <;> simp_all
      have h5 : x5 = false := by cases x5 <;> simp_all
      subst h4 h5
      clear hw
      replace HFN := hide (HFN.out.trans HV.out)
      replace HFL := hide (HFL.out.trans HL2.out)
      clear HV HL2
      go_upto_region 7 with fail
      have o1 : RowP (W.setCell ⟨g, 5, none⟩ (.bool true)) BB (.slice (some ⟨g, 0, none⟩) n nz) n ((⟨x0, x1, x2, x3, false, true⟩ : PieceM) :: os) := HO3.out.put (i := 0) (j := 5) (by simp) (by omega) (.bool true) ⟨x0, x1, x2, x3, false, true⟩ rfl
      have HO4 := hide o1
      have HX4 := hide (hv_other HX3.out (C := g) (by omega) 5 (.bool true))
      have HR4 := hide (hv_other HR3.out (C := g) (by omega) 5 (.bool true))
      have HB5 := hide (HB4.out.setCell (p := ⟨g, 5, none⟩) (by show w.heap.size ≤ g; omega) (.bool true))
      clear o1 c0 c1 c4 c5 cf k0 k1 k2 r0 r1 r2 rf HO3 HX3 HR3 HB4
      generalize W.setCell ⟨g, 5, none⟩ (.bool true) = W2 at *
      have HS := hide (show S7f w W2 BB g n nz u x ((⟨x0, x1, x2, x3, false, true⟩ : PieceM) :: os) from ⟨HB5.out, HX4.out, .inl HR4.out, HO4.out⟩)
      clear HB5 HX4 HR4 HO4
      refine wp_region_last2 (fun W W' => W.grownBy W' (some (w.heap.size + 1)) ∧ (HoldV W (w.heap.size + 1) #[.int .i64 u, .int .i64 x, .slice (some ⟨g, 0, none⟩) n nz] 29 → HoldV W' (w.heap.size + 1) #[.int .i64 u, .int .i64 x, .slice (some ⟨g, 0, none⟩) n nz] 29)) (fun W => S7f w W BB g n nz u x ((⟨x0, x1, x2, x3, false, true⟩ : PieceM) :: os)) (A7f w.heap.size g n nz u x x0 x1) _ rfl (by kernel_rfl) (by kernel_rfl) (by kernel_rfl) (by kernel_rfl) A7f_kept ⟨HS.out.bel.drew, HS.out.box, HS.out.res, HS.out.row.next ((Below.refl _ _).drew)⟩ ?_ ?_
      · clear HS
        refine EachBut.one _ _ _ ?_ ?_
        · intro v W hB hp KK hKK
          rw [if_pos (by rfl)]
          have hp1 : AllOf (A7f w.heap.size g n nz u x x0 x1) v W [] := hp
          clear hp
          simp only [putAll, Act.put, List.setIfInBounds_toArray, List.set_cons_zero, List.set_cons_succ, Nat.reduceAdd] at hKK ⊢
          have k0 := hB.box.cell 0 _ rfl; have k1 := hB.box.cell 1 _ rfl; have k2 := hB.box.cell 2 _ rfl
          clear hp1
          go_simp
          refine hKK _ _ ⟨grown_reflp _ _, id⟩ hB ?_
          rfl
        refine EachBut.one _ _ _ ?_ ?_
        · intro v W hB hp KK hKK
          rw [if_pos (by rfl)]
          have hp1 : AllOf (A7f w.heap.size g n nz u x x0 x1) v W [] := hp
          clear hp
          simp only [putAll, Act.put, List.setIfInBounds_toArray, List.set_cons_zero, List.set_cons_succ, Nat.reduceAdd] at hKK ⊢
          clear hp1
          go_simp
          refine hKK _ _ ⟨grown_reflp _ _, id⟩ hB ?_
          rfl
        refine EachBut.one _ _ _ ?_ ?_
        · intro v W hB hp KK hKK
          rw [if_pos (by rfl)]
          have hp1 : AllOf (A7f w.heap.size g n nz u x x0 x1) v W [1] := hp
          clear hp
          simp only [putAll, Act.put, List.setIfInBounds_toArray, List.set_cons_zero, List.set_cons_succ, Nat.reduceAdd] at hKK ⊢
          have e1 : v 1 = .pointer (some ⟨w.heap.size, 2, none⟩) := hp1.1
          have k2 := hB.box.cell 2 _ rfl
          simp only [e1] at hKK ⊢
          clear e1
          clear hp1
          go_simp
          refine hKK _ _ ⟨grown_reflp _ _, id⟩ hB ?_
          rfl
        refine EachBut.one _ _ _ ?_ ?_
        · intro v W hB hp KK hKK
          rw [if_pos (by rfl)]
          have hp1 : AllOf (A7f w.heap.size g n nz u x x0 x1) v W [2] := hp
          clear hp
          simp only [putAll, Act.put, List.setIfInBounds_toArray, List.set_cons_zero, List.set_cons_succ, Nat.reduceAdd] at hKK ⊢
          have e2 : v 2 = .slice (some ⟨g, 0, none⟩) n nz := hp1.1
          have hnn : (0 : Int) < (n : Int) := by omega
          simp only [e2] at hKK ⊢
          clear e2
          clear hp1
          go_simp
          refine hKK _ _ ⟨grown_reflp _ _, id⟩ hB ?_
          rfl
        refine EachBut.one _ _ _ ?_ ?_
        · intro v W hB hp KK hKK
          rw [if_pos (by rfl)]
          have hp1 : AllOf (A7f w.heap.size g n nz u x x0 x1) v W [3] := hp
          clear hp
          simp only [putAll, Act.put, List.setIfInBounds_toArray, List.set_cons_zero, List.set_cons_succ, Nat.reduceAdd] at hKK ⊢
          have e3 : v 3 = .pointer (some ⟨g, 0, none⟩) := hp1.1
          simp only [e3] at hKK ⊢
          clear e3
          clear hp1
          go_simp
          refine hKK _ _ ⟨grown_reflp _ _, id⟩ hB ?_
          rfl
        refine EachBut.one _ _ _ ?_ ?_
        · intro v W hB hp KK hKK
          rw [if_pos (by rfl)]
          have hp1 : AllOf (A7f w.heap.size g n nz u x x0 x1) v W [4] := hp
          clear hp
          simp only [putAll, Act.put, List.setIfInBounds_toArray, List.set_cons_zero, List.set_cons_succ, Nat.reduceAdd] at hKK ⊢
          have e4 : v 4 = .pointer (some ⟨g, 1, none⟩) := hp1.1
          have c1 : W.cell? ⟨g, 1, none⟩ = some (.int .i64 x1) := hB.row.at HN.out (i := 0) (j := 1) (by simp) (by omega)
          simp only [e4] at hKK ⊢
          clear e4
          clear hp1
          go_simp
          refine hKK _ _ ⟨grown_reflp _ _, id⟩ hB ?_
          rfl
        refine EachBut.one _ _ _ ?_ ?_
        · intro v W hB hp KK hKK
          rw [if_pos (by rfl)]
          have hp1 : AllOf (A7f w.heap.size g n nz u x x0 x1) v W [] := hp
          clear hp
          simp only [putAll, Act.put, List.setIfInBounds_toArray, List.set_cons_zero, List.set_cons_succ, Nat.reduceAdd] at hKK ⊢
          clear hp1
          go_simp
          refine hKK _ _ ⟨grown_reflp _ _, id⟩ hB ?_
          rfl
        refine EachBut.one _ _ _ ?_ ?_
        · intro v W hB hp KK hKK
          rw [if_pos (by rfl)]
          have hp1 : AllOf (A7f w.heap.size g n nz u x x0 x1) v W [6] := hp
          clear hp
          simp only [putAll, Act.put, List.setIfInBounds_toArray, List.set_cons_zero, List.set_cons_succ, Nat.reduceAdd] at hKK ⊢
          have e6 : v 6 = .pointer (some ⟨w.heap.size, 2, none⟩) := hp1.1
          have k2 := hB.box.cell 2 _ rfl
          simp only [e6] at hKK ⊢
          clear e6
          clear hp1
          go_simp
          refine hKK _ _ ⟨grown_reflp _ _, id⟩ hB ?_
          rfl
        refine EachBut.one _ _ _ ?_ ?_
        · intro v W hB hp KK hKK
          rw [if_pos (by rfl)]
          have hp1 : AllOf (A7f w.heap.size g n nz u x x0 x1) v W [7] := hp
          clear hp
          simp only [putAll, Act.put, List.setIfInBounds_toArray, List.set_cons_zero, List.set_cons_succ, Nat.reduceAdd] at hKK ⊢
          have e7 : v 7 = .slice (some ⟨g, 0, none⟩) n nz := hp1.1
          have hnn : (0 : Int) < (n : Int) := by omega
          simp only [e7] at hKK ⊢
          clear e7
          clear hp1
          go_simp
          refine hKK _ _ ⟨grown_reflp _ _, id⟩ hB ?_
          rfl
        refine EachBut.one _ _ _ ?_ ?_
        · intro v W hB hp KK hKK
          rw [if_pos (by rfl)]
          have hp1 : AllOf (A7f w.heap.size g n nz u x x0 x1) v W [8] := hp
          clear hp
          simp only [putAll, Act.put, List.setIfInBounds_toArray, List.set_cons_zero, List.set_cons_succ, Nat.reduceAdd] at hKK ⊢
          have e8 : v 8 = .pointer (some ⟨g, 0, none⟩) := hp1.1
          simp only [e8] at hKK ⊢
          clear e8
          clear hp1
          go_simp
          refine hKK _ _ ⟨grown_reflp _ _, id⟩ hB ?_
          rfl
        refine EachBut.one _ _ _ ?_ ?_
        · intro v W hB hp KK hKK
          rw [if_pos (by rfl)]
          have hp1 : AllOf (A7f w.heap.size g n nz u x x0 x1) v W [9] := hp
          clear hp
          simp only [putAll, Act.put, List.setIfInBounds_toArray, List.set_cons_zero, List.set_cons_succ, Nat.reduceAdd] at hKK ⊢
          have e9 : v 9 = .pointer (some ⟨g, 0, none⟩) := hp1.1
          have c0 : W.cell? ⟨g, 0, none⟩ = some (.int .i64 x0) := hB.row.at HN.out (i := 0) (j := 0) (by simp) (by omega)
          simp only [e9] at hKK ⊢
          clear e9
          clear hp1
          go_simp
          refine hKK _ _ ⟨grown_reflp _ _, id⟩ hB ?_
          rfl
        refine EachBut.one _ _ _ ?_ ?_
        · intro v W hB hp KK hKK
          rw [if_pos (by rfl)]
          have hp1 : AllOf (A7f w.heap.size g n nz u x x0 x1) v W [5, 10] := hp
          clear hp
          simp only [putAll, Act.put, List.setIfInBounds_toArray, List.set_cons_zero, List.set_cons_succ, Nat.reduceAdd] at hKK ⊢
          have e5 : v 5 = .int .i64 x1 := hp1.1
          have e10 : v 10 = .int .i64 x0 := hp1.2.1
          simp only [e5, e10] at hKK ⊢
          clear e5 e10
          clear hp1
          have hw : IntKind.i64.wrap (x1 - x0) = x1 - x0 := by rw [IntKind.wrap_i64]; omega
          go_simp
          refine hKK _ _ ⟨grown_reflp _ _, id⟩ hB ?_
          first | rfl | exact congrArg (Value.int .i64) hw
        refine EachBut.one _ _ _ ?_ ?_
        · intro v W hB hp KK hKK
          rw [if_pos (by rfl)]
          have hp1 : AllOf (A7f w.heap.size g n nz u x x0 x1) v W [0, 0] := hp
          clear hp
          simp only [putAll, Act.put, List.setIfInBounds_toArray, List.set_cons_zero, List.set_cons_succ, Nat.reduceAdd] at hKK ⊢
          have e0 : v 0 = .agg #[.int .i64 u, .int .i64 x, .slice (some ⟨g, 0, none⟩) n nz] := hp1.1
          simp only [e0] at hKK ⊢
          clear e0
          clear hp1
          have hg3 : W.grownBy (((W.setCell ⟨w.heap.size + 1, 0, none⟩ (.int .i64 u)).setCell ⟨w.heap.size + 1, 1, none⟩ (.int .i64 x)).setCell ⟨w.heap.size + 1, 2, none⟩ (.slice (some ⟨g, 0, none⟩) n nz)) (some (w.heap.size + 1)) := gr_set (gr_set (gr_set (grown_reflp _ _) 0 _) 1 _) 2 _
          have HB6 : Hid (S7f w (((W.setCell ⟨w.heap.size + 1, 0, none⟩ (.int .i64 u)).setCell ⟨w.heap.size + 1, 1, none⟩ (.int .i64 x)).setCell ⟨w.heap.size + 1, 2, none⟩ (.slice (some ⟨g, 0, none⟩) n nz)) BB g n nz u x ((⟨x0, x1, x2, x3, false, true⟩ : PieceM) :: os) ∧ HoldV (((W.setCell ⟨w.heap.size + 1, 0, none⟩ (.int .i64 u)).setCell ⟨w.heap.size + 1, 1, none⟩ (.int .i64 x)).setCell ⟨w.heap.size + 1, 2, none⟩ (.slice (some ⟨g, 0, none⟩) n nz)) (w.heap.size + 1) #[.int .i64 u, .int .i64 x, .slice (some ⟨g, 0, none⟩) n nz] 29) := hide (by
            have hh : HoldV (((W.setCell ⟨w.heap.size + 1, 0, none⟩ (.int .i64 u)).setCell ⟨w.heap.size + 1, 1, none⟩ (.int .i64 x)).setCell ⟨w.heap.size + 1, 2, none⟩ (.slice (some ⟨g, 0, none⟩) n nz)) (w.heap.size + 1) #[.int .i64 u, .int .i64 x, .slice (some ⟨g, 0, none⟩) n nz] 29 := by
              rcases hB.res with h | h <;> exact hv_set (hv_set (hv_set h 0 _) 1 _) 2 _
            exact ⟨⟨below_gr hB.bel hg3 hB.bel.size (Nat.le_succ _), hv_gr hB.box hg3 (by omega), .inr hh, row_gr hB.row hg3 (by omega)⟩, hh⟩)
          have HG := hide hg3
          clear hg3
          rcases hB.res with h | h
          all_goals
            have r0 := h.cell 0 _ rfl; have r1 := h.cell 1 _ rfl; have r2 := h.cell 2 _ rfl; have rf := h.frozen
            clear hB h
            go_simp
            exact hKK undef _ ⟨HG.out, fun _ => HB6.out.2⟩ HB6.out.1 HB6.out.2
        refine EachBut.one _ _ _ ?_ ?_
        · intro v W hB hp KK hKK
          rw [if_pos (by rfl)]
          have hp1 : AllOf (A7f w.heap.size g n nz u x x0 x1) v W [11, 12, 0, 1, 2, 3, 4, 5, 6, 7, 8, 9, 10, 11, 12] := hp
          clear hp
          simp only [putAll, Act.put, List.setIfInBounds_toArray, List.set_cons_zero, List.set_cons_succ, Nat.reduceAdd] at hKK ⊢
          have e11 : v 11 = .int .i64 (x1 - x0) := hp1.1
          simp only [e11] at hKK ⊢
          clear e11
          clear hp1
          go_simp
          refine hKK _ _ ⟨grown_reflp _ _, id⟩ hB ?_
          rfl
        · exact trivial
      intro v W hB hA KK hKK
      rw [if_pos (by rfl)]
      simp only [putAll, Act.put, List.setIfInBounds_toArray, List.set_cons_zero, List.set_cons_succ, Nat.reduceAdd]
      have p0 : (A7f w.heap.size g n nz u x x0 x1) 0 (v 0) W := hA 0 (by decide)
      have p1 : (A7f w.heap.size g n nz u x x0 x1) 1 (v 1) W := hA 1 (by decide)
      have p2 : (A7f w.heap.size g n nz u x x0 x1) 2 (v 2) W := hA 2 (by decide)
      have p3 : (A7f w.heap.size g n nz u x x0 x1) 3 (v 3) W := hA 3 (by decide)
      have p4 : (A7f w.heap.size g n nz u x x0 x1) 4 (v 4) W := hA 4 (by decide)
      have p5 : (A7f w.heap.size g n nz u x x0 x1) 5 (v 5) W := hA 5 (by decide)
      have p6 : (A7f w.heap.size g n nz u x x0 x1) 6 (v 6) W := hA 6 (by decide)
      have p7 : (A7f w.heap.size g n nz u x x0 x1) 7 (v 7) W := hA 7 (by decide)
      have p8 : (A7f w.heap.size g n nz u x x0 x1) 8 (v 8) W := hA 8 (by decide)
      have p9 : (A7f w.heap.size g n nz u x x0 x1) 9 (v 9) W := hA 9 (by decide)
      have p10 : (A7f w.heap.size g n nz u x x0 x1) 10 (v 10) W := hA 10 (by decide)
      have p11 : (A7f w.heap.size g n nz u x x0 x1) 11 (v 11) W := hA 11 (by decide)
      have p12 : (A7f w.heap.size g n nz u x x0 x1) 12 (v 12) W := hA 12 (by decide)
      have p13 : (A7f w.heap.size g n nz u x x0 x1) 13 (v 13) W := hA 13 (by decide)
      clear hA
      have e0 : v 0 = .agg #[.int .i64 u, .int .i64 x, .slice (some ⟨g, 0, none⟩) n nz] := p0
      have e1 : v 1 = .pointer (some ⟨w.heap.size, 2, none⟩) := p1
      have e2 : v 2 = .slice (some ⟨g, 0, none⟩) n nz := p2
      have e3 : v 3 = .pointer (some ⟨g, 0, none⟩) := p3
      have e4 : v 4 = .pointer (some ⟨g, 1, none⟩) := p4
      have e5 : v 5 = .int .i64 x1 := p5
      have e6 : v 6 = .pointer (some ⟨w.heap.size, 2, none⟩) := p6
      have e7 : v 7 = .slice (some ⟨g, 0, none⟩) n nz := p7
      have e8 : v 8 = .pointer (some ⟨g, 0, none⟩) := p8
      have e9 : v 9 = .pointer (some ⟨g, 0, none⟩) := p9
      have e10 : v 10 = .int .i64 x0 := p10
      have e11 : v 11 = .int .i64 (x1 - x0) := p11
      have e13 : v 13 = .int .i64 (x1 - x0) := p13
      simp only [e0, e1, e2, e3, e4, e5, e6, e7, e8, e9, e10, e11, e13]
      clear e0 e1 e2 e3 e4 e5 e6 e7 e8 e9 e10 e11 e13 p0 p1 p2 p3 p4 p5 p6 p7 p8 p9 p10 p11 p13
      have r0 := p12.cell 0 _ rfl; have r1 := p12.cell 1 _ rfl; have r2 := p12.cell 2 _ rfl
      have HFF : Hid (OwnP W w.heap.size (.slice (some ⟨g, 0, none⟩) n nz) ((⟨x0, x1, x2, x3, false, true⟩ : PieceM) :: os) ∧ Below w.heap.size w W) := hide ⟨ownP_mono (row_own hB.row HN.out) (by omega), hB.bel⟩
      clear hB p12
      go_simp
      refine hKK _ _ ?_
      clear hKK KK
      go_wp2_with fail
      exact bodyPost_ret (v := .tuple #[.agg #[.int .i64 u, .int .i64 x, .slice (some ⟨g, 0, none⟩) n nz], .int .i64 (x1 - x0), .int .i64 0]) (by simp [results, Try.results18, go_sem, r0, r1, r2]) rfl ⟨_, by rw [HFN.out], by rw [HFL.out]; exact HFF.out.1, HFF.out.2⟩
end Go.Proofs.Ytddkcgngpclgfaa
