/-
Contracts of functions of this seat.
-/
import Derived.Test.YtfffkgladjphoaaRows
import Derived.WalkKit
import Derived.ProofKit
import Derived.OpenShut
import Derived.Test.YtfffkgladjphoaaBa1
namespace Go.Proofs.Ytfffkgladjphoaa
open Go.ChangeShapes Go.WideShapes Go.ChangeAt Go.RowKit
set_option linter.unusedVariables false
set_option maxRecDepth 100000
set_option maxHeartbeats 8000000 in
theorem specAgain_yes {u x : Int} {os : List PieceM} (t : Int) (hok : bOK u x os) (ht : 0 ≤ t ∧ t ≤ 1000000000) (A0 B0 : List PieceM) (q : PieceM) (hos : os = A0 ++ q :: B0) (hq5 : q.f5 = true) (hA0 : ∀ o ∈ A0, o.f5 = false) : BoardAgainP 12 (fun _ => True) u x os t u x (A0 ++ againP t q :: B0) q.f0 q.f1 t (min (q.f3 + 1) 1000000) q.f4 false 0 := by
  intro a n cap w hn ha hc hm _
  obtain ⟨hb2, hX, hR, hQ⟩ := three_boxes w #[.int .i64 u, .int .i64 x, .slice a n cap] #[.int .i64 0, .int .i64 0, .slice none 0 0] #[.int .i64 0, .int .i64 0, .int .i64 0, .int .i64 0, .bool false, .bool false] 28 28 36
  have HB2 := hide hb2; have HX := hide hX; have HR := hide hR; have HQ := hide hQ
  have k0 := hX.cell 0 _ rfl; have k1 := hX.cell 1 _ rfl; have k2 := hX.cell 2 _ rfl
  have hV : w.heap.size + 2 < (((w.alloc (.cells #[.int .i64 u, .int .i64 x, .slice a n cap] 28)).alloc (.cells #[.int .i64 0, .int .i64 0, .slice none 0 0] 28)).alloc (.cells #[.int .i64 0, .int .i64 0, .int .i64 0, .int .i64 0, .bool false, .bool false] 36)).heap.size := hQ.lt
  have HN := hide hn
  have HA := hide (ha.below hb2 (Nat.le_refl _))
  have CV := hide (l15OK_walk u x a n cap os (((w.alloc (.cells #[.int .i64 u, .int .i64 x, .slice a n cap] 28)).alloc (.cells #[.int .i64 0, .int .i64 0, .slice none 0 0] 28)).alloc (.cells #[.int .i64 0, .int .i64 0, .int .i64 0, .int .i64 0, .bool false, .bool false] 36)) hn (ha.below hb2 (Nat.le_refl _)) hm)
  rw [bokB_yes hok] at CV
  have HOK := hide hok
  have h1 : inB t 0 1000000000 = true := inB_iff.2 ht
  obtain ⟨m0, hm0⟩ : ∃ m0, m0 = A0.length := ⟨_, rfl⟩
  have HM0 := hide hm0
  have HLT : Hid (m0 < n) := hide (by rw [hm0, ← hn, hos]; simp)
  have HOS := hide hos; have HQ5 := hide hq5; have HA0 := hide hA0
  have HQ3' : Hid (1 ≤ q.f3 ∧ q.f3 ≤ 1000000) := hide (chk_mem _ _ _ hok.2.2.2 q (by rw [hos]; simp)).2.2.2.2.1
  clear ht hos hq5 hA0 hm0
  clear hn ha hok hb2 hX hR hQ
  go_enter Try.func12, Try.ntmps12
  go_wp2_with fail
  generalize ((w.alloc (.cells #[.int .i64 u, .int .i64 x, .slice a n cap] 28)).alloc (.cells #[.int .i64 0, .int .i64 0, .slice none 0 0] 28)).alloc (.cells #[.int .i64 0, .int .i64 0, .int .i64 0, .int .i64 0, .bool false, .bool false] 36) = V at *
  refine CV.out.mono ?_
  rintro e w1 ⟨rfl, hw1⟩
  have CC := hide (l15Copy_walk u x a n cap os w1 HN.out (HA.out.below hw1 (Nat.le_refl _)) hm)
  have HR1 := hide (HR.out.next hw1); have HQ1 := hide (HQ.out.next hw1)
  have HX1 := hide (HX.out.next hw1)
  have HB1 : Hid (Below w.heap.size w w1) := hide (HB2.out.trans (hw1.mono HB2.out.size))
  have hV1 := hw1.size
  clear hw1 CV k0 k1 k2 HB2 HX HR HQ
  have k0 := HX1.out.cell 0 _ rfl; have k1 := HX1.out.cell 1 _ rfl; have k2 := HX1.out.cell 2 _ rfl
  go_wp2_with (go_at_call 25; refine (In_walk _ _ _ _).mono ?_; rintro e w9 ⟨rfl, hq⟩; rw [hq]; clear hq)
  refine CC.out.mono ?_
  rintro e w2 ⟨v, rfl, hO, hw2⟩
  obtain ⟨bz, nz, rfl⟩ := hO.form
  have HR2 := hide (HR1.out.next hw2); have HQ2 := hide (HQ1.out.next hw2)
  have HX2 := hide (HX1.out.next hw2)
  have HB3 : Hid (Below w.heap.size w w2) := hide (HB1.out.trans (hw2.mono HB1.out.size))
  have HO := hide hO
  have hBB : w.heap.size + 3 ≤ w1.heap.size + 2 := by omega
  clear hO hw2 CC HB1 HR1 HX1 HQ1 k0 k1 k2
  have k0 := HX2.out.cell 0 _ rfl; have k1 := HX2.out.cell 1 _ rfl; have k2 := HX2.out.cell 2 _ rfl; have kf := HX2.out.frozen
  go_upto_region 4 with fail
  have HX3 := hide (hv_set (hv_set (hv_set HX2.out 0 (.int .i64 u)) 1 (.int .i64 x)) 2 (.slice bz n nz))
  have hg3 : w2.grownBy (((w2.setCell ⟨w.heap.size, 0, none⟩ (.int .i64 u)).setCell ⟨w.heap.size, 1, none⟩ (.int .i64 x)).setCell ⟨w.heap.size, 2, none⟩ (.slice bz n nz)) (some w.heap.size) := gr_set (gr_set (gr_set (grown_reflp _ _) 0 _) 1 _) 2 _
  have HR3 := hide (hv_gr HR2.out hg3 (by omega)); have HQ3 := hide (hv_gr HQ2.out hg3 (by omega))
  have HO3 := hide (row_gr HO.out hg3 (by omega))
  have HB4 := hide (below_gr HB3.out hg3 HB3.out.size (Nat.le_refl _))
  clear k0 k1 k2 kf HX2 HR2 HQ2 HO HB3 hg3
  generalize ((w2.setCell ⟨w.heap.size, 0, none⟩ (.int .i64 u)).setCell ⟨w.heap.size, 1, none⟩ (.int .i64 x)).setCell ⟨w.heap.size, 2, none⟩ (.slice bz n nz) = W at *
  have hBB2 : w.heap.size + 3 ≤ w1.heap.size + 2 := hBB
  generalize w1.heap.size + 2 = BB at *
  go_wp2_with fail
  go_loopw [7] (fun s w2 => ∃ i : Nat, i ≤ m0 ∧ s = .int .i64 i ∧ Hid (RowP w2 BB (.slice bz n nz) n os) ∧ Hid (HoldV w2 w.heap.size #[.int .i64 u, .int .i64 x, .slice bz n nz] 28) ∧ Hid (HoldV w2 (w.heap.size + 1) #[.int .i64 0, .int .i64 0, .slice none 0 0] 28) ∧ Hid (HoldV w2 (w.heap.size + 2) #[.int .i64 0, .int .i64 0, .int .i64 0, .int .i64 0, .bool false, .bool false] 36) ∧ Hid (Below w.heap.size w w2)) (fun s _ => m0 - (intOf s).toNat)
  case atStart => exact ⟨0, Nat.zero_le _, rfl, HO3, HX3, HR3, HQ3, HB4⟩
  case round =>
    obtain ⟨i, hi, rfl, HO, HX, HR, HQ, HB⟩ := hrel
    have k0 := HX.out.cell 0 _ rfl; have k1 := HX.out.cell 1 _ rfl; have k2 := HX.out.cell 2 _ rfl
    by_cases hlt : i < m0
    · have hltn : i < n := by have := HLT.out; omega
      have hio : i < os.length := by rw [HN.out]; exact hltn
      obtain ⟨g, cp, e, hgB, hgl⟩ := HO.out.some (by omega)
      injection e with e1 e2 e3
      subst e1 e3
      have hfalse : os[i].f5 = false := by
        have hl0 : i < A0.length := by have := HM0.out; omega
        have e : os[i]? = some A0[i] := by rw [HOS.out, List.getElem?_append_left hl0, List.getElem?_eq_getElem hl0]
        rw [List.getElem?_eq_getElem hio] at e
        rw [Option.some.inj e]
        exact HA0.out _ (List.getElem_mem hl0)
      have c0 := HO.out.at HN.out hio (j := 0) (by omega); have c1 := HO.out.at HN.out hio (j := 1) (by omega); have c2 := HO.out.at HN.out hio (j := 2) (by omega); have c3 := HO.out.at HN.out hio (j := 3) (by omega); have c4 := HO.out.at HN.out hio (j := 4) (by omega); have c5 := HO.out.at HN.out hio (j := 5) (by omega)
      generalize os[i] = oo at *
      obtain ⟨x0, x1, x2, x3, x4, x5⟩ := oo
      have h5 : x5 = false := hfalse
      subst h5
      have d0 : wr.cell? ⟨g, i * 6, none⟩ = some (.int .i64 x0) := c0
      have d1 : wr.cell? ⟨g, i * 6 + 1, none⟩ = some (.int .i64 x1) := c1
      have d2 : wr.cell? ⟨g, i * 6 + 2, none⟩ = some (.int .i64 x2) := c2
      have d3 : wr.cell? ⟨g, i * 6 + 3, none⟩ = some (.int .i64 x3) := c3
      have d4 : wr.cell? ⟨g, i * 6 + 4, none⟩ = some (.bool x4) := c4
      have d5 : wr.cell? ⟨g, i * 6 + 5, none⟩ = some (.bool false) := c5
      clear c0 c1 c2 c3 c4 c5 hfalse
      have hal := (Below.refl wr.heap.size wr).alloc (Nat.le_refl _) (.cells #[.int .i64 x0, .int .i64 x1, .int .i64 x2, .int .i64 x3, .bool x4, .bool false] 36)
      have r5 := (hv_new wr #[.int .i64 x0, .int .i64 x1, .int .i64 x2, .int .i64 x3, .bool x4, .bool false] 36).cell 5 _ rfl
      have HO2 := hide (HO.out.next hal); have HX2 := hide (HX.out.next hal); have HR2 := hide (HR.out.next hal); have HQ2 := hide (HQ.out.next hal); have HB2 := hide (HB.out.trans (hal.mono HB.out.size))
      clear hal HO HX HR HQ HB
      go_wp2_with fail
      exact ⟨⟨i + 1, by omega, by go_num, HO2, HX2, HR2, HQ2, HB2⟩, by simp [intOf]; omega⟩
    · have him : i = m0 := by omega
      have hltn : i < n := by have := HLT.out; omega
      have hio : i < os.length := by rw [HN.out]; exact hltn
      obtain ⟨g, cp, e, hgB, hgl⟩ := HO.out.some (by omega)
      injection e with e1 e2 e3
      subst e1 e3
      have hoi : os[i] = q := by
        have e : os[i]? = some q := by rw [HOS.out, him, HM0.out, List.getElem?_append_right (Nat.le_refl _), Nat.sub_self]; rfl
        rw [List.getElem?_eq_getElem hio] at e
        exact Option.some.inj e
      have HSET : Hid (os.set i (againP t q) = A0 ++ againP t q :: B0) := hide (by rw [HOS.out, him, HM0.out, List.set_append_right _ _ (Nat.le_refl _), Nat.sub_self]; rfl)
      have c0 := HO.out.at HN.out hio (j := 0) (by omega); have c1 := HO.out.at HN.out hio (j := 1) (by omega); have c2 := HO.out.at HN.out hio (j := 2) (by omega); have c3 := HO.out.at HN.out hio (j := 3) (by omega); have c4 := HO.out.at HN.out hio (j := 4) (by omega); have c5 := HO.out.at HN.out hio (j := 5) (by omega)
      rw [hoi] at c0 c1 c2 c3 c4 c5
      clear hoi hi hlt
      subst him
      obtain ⟨x0, x1, x2, x3, x4, x5⟩ := q
      have h5 : x5 = true := HQ5.out
      subst h5
      obtain ⟨q31, q32⟩ : 1 ≤ x3 ∧ x3 ≤ 1000000 := HQ3'.out
      have d0 : wr.cell? ⟨g, i * 6, none⟩ = some (.int .i64 x0) := c0
      have d1 : wr.cell? ⟨g, i * 6 + 1, none⟩ = some (.int .i64 x1) := c1
      have d2 : wr.cell? ⟨g, i * 6 + 2, none⟩ = some (.int .i64 x2) := c2
      have d3 : wr.cell? ⟨g, i * 6 + 3, none⟩ = some (.int .i64 x3) := c3
      have d4 : wr.cell? ⟨g, i * 6 + 4, none⟩ = some (.bool x4) := c4
      have d5 : wr.cell? ⟨g, i * 6 + 5, none⟩ = some (.bool true) := c5
      clear c0 c1 c2 c3 c4 c5
      obtain ⟨mn, hmn⟩ : ∃ mn, mn = min (x3 + 1) 1000000 := ⟨_, rfl⟩
      have HMN := hide hmn
      clear hmn
      have hwr : w.heap.size + 2 < wr.heap.size := HQ.out.lt
      go_upto_region 12 with (go_at_call 26; refine (l14Min_walk _ _ _).mono ?_; rintro e w9 ⟨rfl, hq⟩; rw [hq, ← HMN.out]; clear hq)
      have hal := (Below.refl wr.heap.size wr).alloc (Nat.le_refl _) (.cells #[.int .i64 x0, .int .i64 x1, .int .i64 t, .int .i64 mn, .bool x4, .bool false] 36)
      have HP2 : Hid (HoldV (wr.alloc (.cells #[.int .i64 x0, .int .i64 x1, .int .i64 t, .int .i64 mn, .bool x4, .bool false] 36)) wr.heap.size _ 36) := hide (hv_new wr _ _)
      have HO4 := hide (HO.out.next hal); have HX4 := hide (HX.out.next hal); have HR4 := hide (HR.out.next hal); have HQ4 := hide (HQ.out.next hal); have HB4' := hide (HB.out.trans (hal.mono HB.out.size))
      clear hal HO HX HR HQ HB d0 d1 d2 d3 d4 d5 k0 k1 k2
      generalize wr.alloc (.cells #[.int .i64 x0, .int .i64 x1, .int .i64 t, .int .i64 mn, .bool x4, .bool false] 36) = wb at *
      generalize wr.heap.size = PB at *
      have p0 : wb.cell? ⟨PB, 0, none⟩ = some (.int .i64 x0) := HP2.out.cell 0 _ rfl
      have p1 : wb.cell? ⟨PB, 1, none⟩ = some (.int .i64 x1) := HP2.out.cell 1 _ rfl
      have p2 : wb.cell? ⟨PB, 2, none⟩ = some (.int .i64 t) := HP2.out.cell 2 _ rfl
      have p3 : wb.cell? ⟨PB, 3, none⟩ = some (.int .i64 mn) := HP2.out.cell 3 _ rfl
      have p4 : wb.cell? ⟨PB, 4, none⟩ = some (.bool x4) := HP2.out.cell 4 _ rfl
      have p5 : wb.cell? ⟨PB, 5, none⟩ = some (.bool false) := HP2.out.cell 5 _ rfl
      have k2 := HX4.out.cell 2 _ rfl
      have d0 : wb.cell? ⟨g, i * 6, none⟩ = some (.int .i64 os[i].f0) := HO4.out.at HN.out hio (j := 0) (by omega)
      have d1 : wb.cell? ⟨g, i * 6 + 1, none⟩ = some (.int .i64 os[i].f1) := HO4.out.at HN.out hio (j := 1) (by omega)
      have d2 : wb.cell? ⟨g, i * 6 + 2, none⟩ = some (.int .i64 os[i].f2) := HO4.out.at HN.out hio (j := 2) (by omega)
      have d3 : wb.cell? ⟨g, i * 6 + 3, none⟩ = some (.int .i64 os[i].f3) := HO4.out.at HN.out hio (j := 3) (by omega)
      have d4 : wb.cell? ⟨g, i * 6 + 4, none⟩ = some (.bool os[i].f4) := HO4.out.at HN.out hio (j := 4) (by omega)
      have d5 : wb.cell? ⟨g, i * 6 + 5, none⟩ = some (.bool os[i].f5) := HO4.out.at HN.out hio (j := 5) (by omega)
      have df := row_frozen HO4.out
      go_upto_region 13 with fail
      have HO5 := hide (row_put6 HO4.out hio (⟨x0, x1, t, mn, x4, false⟩ : PieceM))
      have hgG : wb.grownBy ((((((wb.setCell ⟨g, i * 6, none⟩ (.int .i64 x0)).setCell ⟨g, i * 6 + 1, none⟩ (.int .i64 x1)).setCell ⟨g, i * 6 + 2, none⟩ (.int .i64 t)).setCell ⟨g, i * 6 + 3, none⟩ (.int .i64 mn)).setCell ⟨g, i * 6 + 4, none⟩ (.bool x4)).setCell ⟨g, i * 6 + 5, none⟩ (.bool false)) (some g) := gr_set (gr_set (gr_set (gr_set (gr_set (gr_set (grown_reflp _ _) _ _) _ _) _ _) _ _) _ _) _ _
      have HX5 := hide (hv_gr HX4.out hgG (by omega)); have HR5 := hide (hv_gr HR4.out hgG (by omega)); have HQ5' := hide (hv_gr HQ4.out hgG (by omega)); have HP5 := hide (hv_gr HP2.out hgG (by omega))
      have HB5 := hide (below_gr HB4'.out hgG HB4'.out.size (by omega))
      clear hgG HO4 HX4 HR4 HQ4 HP2 HB4' p0 p1 p2 p3 p4 p5 k2 d0 d1 d2 d3 d4 d5 df
      generalize (((((wb.setCell ⟨g, i * 6, none⟩ (.int .i64 x0)).setCell ⟨g, i * 6 + 1, none⟩ (.int .i64 x1)).setCell ⟨g, i * 6 + 2, none⟩ (.int .i64 t)).setCell ⟨g, i * 6 + 3, none⟩ (.int .i64 mn)).setCell ⟨g, i * 6 + 4, none⟩ (.bool x4)).setCell ⟨g, i * 6 + 5, none⟩ (.bool false) = wc at *
      have HO6 := hide HO5.out
      rw [show (⟨x0, x1, t, mn, x4, false⟩ : PieceM) = againP t ⟨x0, x1, x2, x3, x4, true⟩ by unfold againP; rw [HMN.out], HSET.out] at HO6
      have HOL : Hid ((A0 ++ againP t (⟨x0, x1, x2, x3, x4, true⟩ : PieceM) :: B0).length = n) := hide (by rw [← HSET.out, List.length_set]; exact HN.out)
      have HS : Hid (S13 w wc BB g n nz PB u x x0 x1 t mn x4 (A0 ++ againP t (⟨x0, x1, x2, x3, x4, true⟩ : PieceM) :: B0)) := hide ⟨HB5.out, HX5.out, HP5.out, .inl HR5.out, .inl HQ5'.out, HO6.out⟩
      clear HB5 HX5 HP5 HR5 HQ5' HO5 HO6
      go_wp2_with fail
      refine wp_region_last2 (fun W W2 => ((HoldV W (w.heap.size + 1) #[.int .i64 u, .int .i64 x, .slice (some ⟨g, 0, none⟩) n nz] 28 → HoldV W2 (w.heap.size + 1) #[.int .i64 u, .int .i64 x, .slice (some ⟨g, 0, none⟩) n nz] 28) ∧ (HoldV W (w.heap.size + 2) #[.int .i64 x0, .int .i64 x1, .int .i64 t, .int .i64 mn, .bool x4, .bool false] 36 → HoldV W2 (w.heap.size + 2) #[.int .i64 x0, .int .i64 x1, .int .i64 t, .int .i64 mn, .bool x4, .bool false] 36))) (fun W => S13 w W BB g n nz PB u x x0 x1 t mn x4 (A0 ++ againP t (⟨x0, x1, x2, x3, x4, true⟩ : PieceM) :: B0)) (A13 w.heap.size g n nz u x x0 x1 t mn x4) _ rfl (by kernel_rfl) (by kernel_rfl) (by kernel_rfl) (by kernel_rfl) A13_kept ⟨HS.out.bel.drew, HS.out.box, HS.out.pb, HS.out.res, HS.out.rep, HS.out.row.next ((Below.refl _ _).drew)⟩ ?_ ?_
      · clear HS
        refine EachBut.one _ _ _ ?_ ?_
        · intro v W hB hp KK hKK
          rw [if_pos (by rfl)]
          have hp1 : AllOf (A13 w.heap.size g n nz u x x0 x1 t mn x4) v W [] := hp
          clear hp
          simp only [putAll, Act.put, List.setIfInBounds_toArray, List.set_cons_zero, List.set_cons_succ, Nat.reduceAdd] at hKK ⊢
          have k0 := hB.box.cell 0 _ rfl; have k1 := hB.box.cell 1 _ rfl; have k2 := hB.box.cell 2 _ rfl
          clear hp1
          go_simp
          refine hKK _ _ ⟨id, id⟩ hB ?_
          rfl
        refine EachBut.one _ _ _ ?_ ?_
        · intro v W hB hp KK hKK
          rw [if_pos (by rfl)]
          have hp1 : AllOf (A13 w.heap.size g n nz u x x0 x1 t mn x4) v W [] := hp
          clear hp
          simp only [putAll, Act.put, List.setIfInBounds_toArray, List.set_cons_zero, List.set_cons_succ, Nat.reduceAdd] at hKK ⊢
          have p0 := hB.pb.cell 0 (.int .i64 x0) rfl; have p1 := hB.pb.cell 1 (.int .i64 x1) rfl; have p2 := hB.pb.cell 2 (.int .i64 t) rfl; have p3 := hB.pb.cell 3 (.int .i64 mn) rfl; have p4 := hB.pb.cell 4 (.bool x4) rfl; have p5 := hB.pb.cell 5 (.bool false) rfl
          clear hp1
          go_simp
          refine hKK _ _ ⟨id, id⟩ hB ?_
          rfl
        refine EachBut.one _ _ _ ?_ ?_
        · intro v W hB hp KK hKK
          rw [if_pos (by rfl)]
          have hp1 : AllOf (A13 w.heap.size g n nz u x x0 x1 t mn x4) v W [0, 0] := hp
          clear hp
          simp only [putAll, Act.put, List.setIfInBounds_toArray, List.set_cons_zero, List.set_cons_succ, Nat.reduceAdd] at hKK ⊢
          have e0 : v 0 = .agg #[.int .i64 u, .int .i64 x, .slice (some ⟨g, 0, none⟩) n nz] := hp1.1
          simp only [e0] at hKK ⊢
          clear e0
          clear hp1
          have hg3 : W.grownBy (((W.setCell ⟨w.heap.size + 1, 0, none⟩ (.int .i64 u)).setCell ⟨w.heap.size + 1, 1, none⟩ (.int .i64 x)).setCell ⟨w.heap.size + 1, 2, none⟩ (.slice (some ⟨g, 0, none⟩) n nz)) (some (w.heap.size + 1)) := gr_set (gr_set (gr_set (grown_reflp _ _) 0 _) 1 _) 2 _
          have HB6 : Hid (S13 w (((W.setCell ⟨w.heap.size + 1, 0, none⟩ (.int .i64 u)).setCell ⟨w.heap.size + 1, 1, none⟩ (.int .i64 x)).setCell ⟨w.heap.size + 1, 2, none⟩ (.slice (some ⟨g, 0, none⟩) n nz)) BB g n nz PB u x x0 x1 t mn x4 (A0 ++ againP t (⟨x0, x1, x2, x3, x4, true⟩ : PieceM) :: B0) ∧ HoldV (((W.setCell ⟨w.heap.size + 1, 0, none⟩ (.int .i64 u)).setCell ⟨w.heap.size + 1, 1, none⟩ (.int .i64 x)).setCell ⟨w.heap.size + 1, 2, none⟩ (.slice (some ⟨g, 0, none⟩) n nz)) (w.heap.size + 1) #[.int .i64 u, .int .i64 x, .slice (some ⟨g, 0, none⟩) n nz] 28) := hide (by
            have hh : HoldV (((W.setCell ⟨w.heap.size + 1, 0, none⟩ (.int .i64 u)).setCell ⟨w.heap.size + 1, 1, none⟩ (.int .i64 x)).setCell ⟨w.heap.size + 1, 2, none⟩ (.slice (some ⟨g, 0, none⟩) n nz)) (w.heap.size + 1) #[.int .i64 u, .int .i64 x, .slice (some ⟨g, 0, none⟩) n nz] 28 := by
              rcases hB.res with h | h <;> exact hv_set (hv_set (hv_set h 0 _) 1 _) 2 _
            exact ⟨⟨below_gr hB.bel hg3 hB.bel.size (Nat.le_succ _), hv_gr hB.box hg3 (by omega), hv_gr hB.pb hg3 (by omega), .inr hh, (by rcases hB.rep with h | h; exact .inl (hv_gr h hg3 (by omega)); exact .inr (hv_gr h hg3 (by omega))), row_gr hB.row hg3 (by omega)⟩, hh⟩)
          have HG := hide hg3
          clear hg3
          rcases hB.res with h | h
          all_goals
            have r0 := h.cell 0 _ rfl; have r1 := h.cell 1 _ rfl; have r2 := h.cell 2 _ rfl; have rf := h.frozen
            clear hB h
            go_simp
            exact hKK undef _ ⟨fun _ => HB6.out.2, fun h => hv_gr h HG.out (by omega)⟩ HB6.out.1 HB6.out.2
        refine EachBut.one _ _ _ ?_ ?_
        · intro v W hB hp KK hKK
          rw [if_pos (by rfl)]
          have hp1 : AllOf (A13 w.heap.size g n nz u x x0 x1 t mn x4) v W [1, 2, 0, 1, 2] := hp
          clear hp
          simp only [putAll, Act.put, List.setIfInBounds_toArray, List.set_cons_zero, List.set_cons_succ, Nat.reduceAdd] at hKK ⊢
          have e1 : v 1 = .agg #[.int .i64 x0, .int .i64 x1, .int .i64 t, .int .i64 mn, .bool x4, .bool false] := hp1.1
          simp only [e1] at hKK ⊢
          clear e1
          clear hp1
          have hg3 : W.grownBy ((((((W.setCell ⟨w.heap.size + 2, 0, none⟩ (.int .i64 x0)).setCell ⟨w.heap.size + 2, 1, none⟩ (.int .i64 x1)).setCell ⟨w.heap.size + 2, 2, none⟩ (.int .i64 t)).setCell ⟨w.heap.size + 2, 3, none⟩ (.int .i64 mn)).setCell ⟨w.heap.size + 2, 4, none⟩ (.bool x4)).setCell ⟨w.heap.size + 2, 5, none⟩ (.bool false)) (some (w.heap.size + 2)) := gr_set (gr_set (gr_set (gr_set (gr_set (gr_set (grown_reflp _ _) 0 _) 1 _) 2 _) 3 _) 4 _) 5 _
          have HB6 : Hid (S13 w ((((((W.setCell ⟨w.heap.size + 2, 0, none⟩ (.int .i64 x0)).setCell ⟨w.heap.size + 2, 1, none⟩ (.int .i64 x1)).setCell ⟨w.heap.size + 2, 2, none⟩ (.int .i64 t)).setCell ⟨w.heap.size + 2, 3, none⟩ (.int .i64 mn)).setCell ⟨w.heap.size + 2, 4, none⟩ (.bool x4)).setCell ⟨w.heap.size + 2, 5, none⟩ (.bool false)) BB g n nz PB u x x0 x1 t mn x4 (A0 ++ againP t (⟨x0, x1, x2, x3, x4, true⟩ : PieceM) :: B0) ∧ HoldV ((((((W.setCell ⟨w.heap.size + 2, 0, none⟩ (.int .i64 x0)).setCell ⟨w.heap.size + 2, 1, none⟩ (.int .i64 x1)).setCell ⟨w.heap.size + 2, 2, none⟩ (.int .i64 t)).setCell ⟨w.heap.size + 2, 3, none⟩ (.int .i64 mn)).setCell ⟨w.heap.size + 2, 4, none⟩ (.bool x4)).setCell ⟨w.heap.size + 2, 5, none⟩ (.bool false)) (w.heap.size + 2) #[.int .i64 x0, .int .i64 x1, .int .i64 t, .int .i64 mn, .bool x4, .bool false] 36) := hide (by
            have hh : HoldV ((((((W.setCell ⟨w.heap.size + 2, 0, none⟩ (.int .i64 x0)).setCell ⟨w.heap.size + 2, 1, none⟩ (.int .i64 x1)).setCell ⟨w.heap.size + 2, 2, none⟩ (.int .i64 t)).setCell ⟨w.heap.size + 2, 3, none⟩ (.int .i64 mn)).setCell ⟨w.heap.size + 2, 4, none⟩ (.bool x4)).setCell ⟨w.heap.size + 2, 5, none⟩ (.bool false)) (w.heap.size + 2) #[.int .i64 x0, .int .i64 x1, .int .i64 t, .int .i64 mn, .bool x4, .bool false] 36 := by
              rcases hB.rep with h | h <;> exact hv_set (hv_set (hv_set (hv_set (hv_set (hv_set h 0 _) 1 _) 2 _) 3 _) 4 _) 5 _
            exact ⟨⟨below_gr hB.bel hg3 hB.bel.size (by omega), hv_gr hB.box hg3 (by omega), hv_gr hB.pb hg3 (by omega), (by rcases hB.res with h | h; exact .inl (hv_gr h hg3 (by omega)); exact .inr (hv_gr h hg3 (by omega))), .inr hh, row_gr hB.row hg3 (by omega)⟩, hh⟩)
          have HG := hide hg3
          clear hg3
          rcases hB.rep with h | h
          all_goals
            have r0 := h.cell 0 _ rfl; have r1 := h.cell 1 _ rfl; have r2 := h.cell 2 _ rfl; have r3 := h.cell 3 _ rfl; have r4 := h.cell 4 _ rfl; have r5 := h.cell 5 _ rfl; have rf := h.frozen
            clear hB h
            go_simp
            exact hKK undef _ ⟨fun h => hv_gr h HG.out (by omega), fun _ => HB6.out.2⟩ HB6.out.1 HB6.out.2
        · exact trivial
      intro v W hB hA KK hKK
      rw [if_pos (by rfl)]
      simp only [putAll, Act.put, List.setIfInBounds_toArray, List.set_cons_zero, List.set_cons_succ, Nat.reduceAdd]
      have e0 : v 0 = .agg #[.int .i64 u, .int .i64 x, .slice (some ⟨g, 0, none⟩) n nz] := hA 0 (by decide)
      have e1 : v 1 = .agg #[.int .i64 x0, .int .i64 x1, .int .i64 t, .int .i64 mn, .bool x4, .bool false] := hA 1 (by decide)
      have a2 : HoldV W (w.heap.size + 1) #[.int .i64 u, .int .i64 x, .slice (some ⟨g, 0, none⟩) n nz] 28 := hA 2 (by decide)
      have a3 : HoldV W (w.heap.size + 2) #[.int .i64 x0, .int .i64 x1, .int .i64 t, .int .i64 mn, .bool x4, .bool false] 36 := hA 3 (by decide)
      simp only [e0, e1]
      clear hA e0 e1
      have r0 := a2.cell 0 _ rfl; have r1 := a2.cell 1 _ rfl; have r2 := a2.cell 2 _ rfl
      have q0 := a3.cell 0 (.int .i64 x0) rfl; have q1 := a3.cell 1 (.int .i64 x1) rfl; have q2 := a3.cell 2 (.int .i64 t) rfl; have q3 := a3.cell 3 (.int .i64 mn) rfl; have q4 := a3.cell 4 (.bool x4) rfl; have q5 := a3.cell 5 (.bool false) rfl
      have HFF : Hid (OwnP W w.heap.size (.slice (some ⟨g, 0, none⟩) n nz) (A0 ++ againP t (⟨x0, x1, x2, x3, x4, true⟩ : PieceM) :: B0) ∧ Below w.heap.size w W) := hide ⟨ownP_mono (row_own hB.row HOL.out) (by omega), hB.bel⟩
      clear hB a2 a3
      go_simp
      refine hKK _ _ ?_
      clear hKK KK
      go_wp2_with fail
      exact bodyPost_ret (v := .tuple #[.agg #[.int .i64 u, .int .i64 x, .slice (some ⟨g, 0, none⟩) n nz], .agg #[.int .i64 x0, .int .i64 x1, .int .i64 t, .int .i64 mn, .bool x4, .bool false], .int .i64 0]) (by simp [results, Try.results12, go_sem, r0, r1, r2, q0, q1, q2, q3, q4, q5]) rfl ⟨_, by rw [HMN.out], HFF.out.1, HFF.out.2⟩
end Go.Proofs.Ytfffkgladjphoaa
