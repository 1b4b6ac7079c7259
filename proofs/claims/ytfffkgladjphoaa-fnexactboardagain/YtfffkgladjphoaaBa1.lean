/-
Contracts of functions of this seat.
-/
import Derived.Test.YtfffkgladjphoaaRows
import Derived.WalkKit
import Derived.ProofKit
import Derived.OpenShut
import Derived.Test.YtfffkgladjphoaaBa0
import Derived.Test.YtfffkgladjphoaaL1BoardAgain
namespace Go.Proofs.Ytfffkgladjphoaa
open Go.ChangeShapes Go.WideShapes Go.ChangeAt Go.RowKit
set_option linter.unusedVariables false
set_option maxRecDepth 100000
theorem l14Min_walk (a b : Int) (w : World) : Calls Try.prog 26 #[.int .i64 a, .int .i64 b] w fun e w' => e = .returned (.int .i64 (min a b)) ∧ w' = w := by
  by_cases h : a < b
  · have e : min a b = a := by omega
    rw [e]
    go_enter Try.func26, Try.ntmps26
    go_wp2
    go_ret
    exact ⟨rfl, rfl⟩
  · have e : min a b = b := by omega
    rw [e]
    go_enter Try.func26, Try.ntmps26
    go_wp2
    go_ret
    exact ⟨rfl, rfl⟩
theorem row_gr3 {W W' : World} {BB n g cap p : Nat} {os : List PieceM} (h : RowP W BB (.slice (some ⟨g, 0, none⟩) n cap) n os) (hg : W.grownBy W' (some p)) (hne : g ≠ p) : RowP W' BB (.slice (some ⟨g, 0, none⟩) n cap) n os := by
  refine ⟨h.1, ?_⟩
  rcases h.2 with h0 | ⟨r, c, cur, hv, hB, hr, hrest⟩
  · exact .inl h0
  · cases hv
    exact .inr ⟨g, cap, cur, rfl, hB, (hg.block g (Array.getElem?_eq_some_iff.1 hr).1 (fun e => hne (Option.some.inj e))).trans hr, hrest⟩
theorem row_put6 {W : World} {BB g n cap : Nat} {os : List PieceM} (h : RowP W BB (.slice (some ⟨g, 0, none⟩) n cap) n os) {i : Nat} (hi : i < os.length) (q : PieceM) : RowP ((((((W.setCell ⟨g, i * 6, none⟩ (.int .i64 q.f0)).setCell ⟨g, i * 6 + 1, none⟩ (.int .i64 q.f1)).setCell ⟨g, i * 6 + 2, none⟩ (.int .i64 q.f2)).setCell ⟨g, i * 6 + 3, none⟩ (.int .i64 q.f3)).setCell ⟨g, i * 6 + 4, none⟩ (.bool q.f4)).setCell ⟨g, i * 6 + 5, none⟩ (.bool q.f5)) BB (.slice (some ⟨g, 0, none⟩) n cap) n (os.set i q) := by
  have h0 := h.put hi (j := 0) (by omega) (.int .i64 q.f0) ⟨q.f0, os[i].f1, os[i].f2, os[i].f3, os[i].f4, os[i].f5⟩ rfl
  have h1 := h0.put (i := i) (j := 1) (by rw [List.length_set]; exact hi) (by omega) (.int .i64 q.f1) ⟨q.f0, q.f1, os[i].f2, os[i].f3, os[i].f4, os[i].f5⟩ (by rw [List.getElem_set_self]; rfl)
  rw [List.set_set] at h1
  have h2 := h1.put (i := i) (j := 2) (by rw [List.length_set]; exact hi) (by omega) (.int .i64 q.f2) ⟨q.f0, q.f1, q.f2, os[i].f3, os[i].f4, os[i].f5⟩ (by rw [List.getElem_set_self]; rfl)
  rw [List.set_set] at h2
  have h3 := h2.put (i := i) (j := 3) (by rw [List.length_set]; exact hi) (by omega) (.int .i64 q.f3) ⟨q.f0, q.f1, q.f2, q.f3, os[i].f4, os[i].f5⟩ (by rw [List.getElem_set_self]; rfl)
  rw [List.set_set] at h3
  have h4 := h3.put (i := i) (j := 4) (by rw [List.length_set]; exact hi) (by omega) (.bool q.f4) ⟨q.f0, q.f1, q.f2, q.f3, q.f4, os[i].f5⟩ (by rw [List.getElem_set_self]; rfl)
  rw [List.set_set] at h4
  have h5 := h4.put (i := i) (j := 5) (by rw [List.length_set]; exact hi) (by omega) (.bool q.f5) q (by rw [List.getElem_set_self]; rfl)
  rw [List.set_set] at h5
  rw [Nat.add_zero] at h5
  exact h5
theorem ownsAt.drewp {W : World} {B e K n : Nat} {v : Value} {vs : List Value} (h : ownsAt W B e K v n vs) : ownsAt W.drew B e K v n vs := h
set_option maxHeartbeats 8000000 in
theorem specAgain_form {u x : Int} {os : List PieceM} (t : Int) (hok : bOK u x os) (ht : ¬ (0 ≤ t ∧ t ≤ 1000000000)) : BoardAgainP 12 (fun _ => True) u x os t 0 0 [] 0 0 0 0 false false 1 := by
  intro a n cap w hn ha hc hm _
  obtain ⟨hb2, hX, hR, hQ⟩ := three_boxes w #[.int .i64 u, .int .i64 x, .slice a n cap] #[.int .i64 0, .int .i64 0, .slice none 0 0] #[.int .i64 0, .int .i64 0, .int .i64 0, .int .i64 0, .bool false, .bool false] 28 28 36
  have HB2 := hide hb2; have HX := hide hX; have HR := hide hR; have HQ := hide hQ
  have k0 := hX.cell 0 _ rfl; have k1 := hX.cell 1 _ rfl; have k2 := hX.cell 2 _ rfl
  have hV : w.heap.size + 2 < (((w.alloc (.cells #[.int .i64 u, .int .i64 x, .slice a n cap] 28)).alloc (.cells #[.int .i64 0, .int .i64 0, .slice none 0 0] 28)).alloc (.cells #[.int .i64 0, .int .i64 0, .int .i64 0, .int .i64 0, .bool false, .bool false] 36)).heap.size := hQ.lt
  have HN := hide hn
  have HA := hide (ha.below hb2 (Nat.le_refl _))
  have CV := hide (l15OK_walk u x a n cap os (((w.alloc (.cells #[.int .i64 u, .int .i64 x, .slice a n cap] 28)).alloc (.cells #[.int .i64 0, .int .i64 0, .slice none 0 0] 28)).alloc (.cells #[.int .i64 0, .int .i64 0, .int .i64 0, .int .i64 0, .bool false, .bool false] 36)) hn (ha.below hb2 (Nat.le_refl _)) hm)
  rw [bokB_yes hok] at CV
  have HOK := hide hok
  have h1 : inB t 0 1000000000 = false := decide_eq_false ht
  clear ht
  clear hn ha hok hb2 hX hR hQ
  go_enter Try.func12, Try.ntmps12
  go_wp2_with fail
  generalize ((w.alloc (.cells #[.int .i64 u, .int .i64 x, .slice a n cap] 28)).alloc (.cells #[.int .i64 0, .int .i64 0, .slice none 0 0] 28)).alloc (.cells #[.int .i64 0, .int .i64 0, .int .i64 0, .int .i64 0, .bool false, .bool false] 36) = V at *
  refine CV.out.mono ?_
  rintro e w1 ⟨rfl, hw1⟩
  have HR1 := hide (HR.out.next hw1); have HQ1 := hide (HQ.out.next hw1)
  have HB1 : Hid (Below w.heap.size w w1) := hide (HB2.out.trans (hw1.mono HB2.out.size))
  have r0 := HR1.out.cell 0 _ rfl; have r1 := HR1.out.cell 1 _ rfl; have r2 := HR1.out.cell 2 _ rfl; have rf := HR1.out.frozen
  have q0 := HQ1.out.cell 0 _ rfl; have q1 := HQ1.out.cell 1 _ rfl; have q2 := HQ1.out.cell 2 _ rfl; have q3 := HQ1.out.cell 3 _ rfl; have q4 := HQ1.out.cell 4 _ rfl; have q5 := HQ1.out.cell 5 _ rfl; have qf := HQ1.out.frozen
  clear hw1 CV k0 k1 k2 HB2 HX HR HQ
  go_wp2_with (go_at_call 25; refine (In_walk _ _ _ _).mono ?_; rintro e w9 ⟨rfl, hq⟩; rw [hq]; clear hq)
  exact bodyPost_ret (v := .tuple #[.agg #[.int .i64 0, .int .i64 0, .slice none 0 0], .agg #[.int .i64 0, .int .i64 0, .int .i64 0, .int .i64 0, .bool false, .bool false], .int .i64 1]) (by simp [results, Try.results12, go_sem, r0, r1, r2, q0, q1, q2, q3, q4, q5]) rfl ⟨_, rfl, ownP_nil _ _, below_gr (below_gr HB1.out (gr_set (gr_set (gr_set (grown_reflp _ _) 0 _) 1 _) 2 _) HB1.out.size (Nat.le_succ _)) (gr_set (gr_set (gr_set (gr_set (gr_set (gr_set (grown_reflp _ _) 0 _) 1 _) 2 _) 3 _) 4 _) 5 _) (by simp; exact HB1.out.size) (by omega)⟩

set_option maxHeartbeats 8000000 in
theorem specAgain_none {u x : Int} {os : List PieceM} (t : Int) (hok : bOK u x os) (ht : 0 ≤ t ∧ t ≤ 1000000000) (hno : ∀ o ∈ os, o.f5 = false) : BoardAgainP 12 (fun _ => True) u x os t 0 0 [] 0 0 0 0 false false 13 := by
  intro a n cap w hn ha hc hm _
  obtain ⟨hb2, hX, hR, hQ⟩ := three_boxes w #[.int .i64 u, .int .i64 x, .slice a n cap] #[.int .i64 0, .int .i64 0, .slice none 0 0] #[.int .i64 0, .int .i64 0, .int .i64 0, .int .i64 0, .bool false, .bool false] 28 28 36
  have HB2 := hide hb2; have HX := hide hX; have HR := hide hR; have HQ := hide hQ
  have k0 := hX.cell 0 _ rfl; have k1 := hX.cell 1 _ rfl; have k2 := hX.cell 2 _ rfl
  have hV : w.heap.size + 2 < (((w.alloc (.cells #[.int .i64 u, .int .i64 x, .slice a n cap] 28)).alloc (.cells #[.int .i64 0, .int .i64 0, .slice none 0 0] 28)).alloc (.cells #[.int .i64 0, .int .i64 0, .int .i64 0, .int .i64 0, .bool false, .bool false] 36)).heap.size := hQ.lt
  have HN := hide hn
  have HA := hide (ha.below hb2 (Nat.le_refl _))
  have CV := hide (l15OK_walk u x a n cap os (((w.alloc (.cells #[.int .i64 u, .int .i64 x, .slice a n cap] 28)).alloc (.cells #[.int .i64 0, .int .i64 0, .slice none 0 0] 28)).alloc (.cells #[.int .i64 0, .int .i64 0, .int .i64 0, .int .i64 0, .bool false, .bool false] 36)) hn (ha.below hb2 (Nat.le_refl _)) hm)
  rw [bokB_yes hok] at CV
  have HOK := hide hok
  have h1 : inB t 0 1000000000 = true := inB_iff.2 ht
  have HNO := hide hno
  have HLT : Hid (n ≤ n) := hide (Nat.le_refl _)
  clear ht hno
  clear hn ha hok hb2 hX hR hQ
  go_enter Try.func12, Try.ntmps12
  go_wp2_with fail
  generalize ((w.alloc (.cells #[.int .i64 u, .int .i64 x, .slice a n cap] 28)).alloc (.cells #[.int .i64 0, .int .i64 0, .slice none 0 0] 28)).alloc (.cells #[.int .i64 0, .int .i64 0, .int .i64 0, .int .i64 0, .bool false, .bool false] 36) = V at *
  refine CV.out.mono ?_
  rintro e w1 ⟨rfl, hw1⟩
  have CC := hide (l15Copy_walk u x a n cap os w1 HN.out (HA.out.below hw1 (Nat.le_refl _)) hm)
  have HR1 := hide (HR.out.next hw1); have HQ1 := hide (HQ.out.next hw1)
  have HX1 := hide (HX.out.next hw1)
  have HB1 : Hid (Below w.heap.size w w1) := hide (HB2.out.trans (hw1.mono HB2.out.size))
  have hV1 := hw1.size
  clear hw1 CV k0 k1 k2 HB2 HX HR HQ
  have k0 := HX1.out.cell 0 _ rfl; have k1 := HX1.out.cell 1 _ rfl; have k2 := HX1.out.cell 2 _ rfl
  go_wp2_with (go_at_call 25; refine (In_walk _ _ _ _).mono ?_; rintro e w9 ⟨rfl, hq⟩; rw [hq]; clear hq)
  refine CC.out.mono ?_
  rintro e w2 ⟨v, rfl, hO, hw2⟩
  obtain ⟨bz, nz, rfl⟩ := hO.form
  have HR2 := hide (HR1.out.next hw2); have HQ2 := hide (HQ1.out.next hw2)
  have HX2 := hide (HX1.out.next hw2)
  have HB3 : Hid (Below w.heap.size w w2) := hide (HB1.out.trans (hw2.mono HB1.out.size))
  have HO := hide hO
  have hBB : w.heap.size + 3 ≤ w1.heap.size + 2 := by omega
  clear hO hw2 CC HB1 HR1 HX1 HQ1 k0 k1 k2
  have k0 := HX2.out.cell 0 _ rfl; have k1 := HX2.out.cell 1 _ rfl; have k2 := HX2.out.cell 2 _ rfl; have kf := HX2.out.frozen
  go_upto_region 4 with fail
  have HX3 := hide (hv_set (hv_set (hv_set HX2.out 0 (.int .i64 u)) 1 (.int .i64 x)) 2 (.slice bz n nz))
  have hg3 : w2.grownBy (((w2.setCell ⟨w.heap.size, 0, none⟩ (.int .i64 u)).setCell ⟨w.heap.size, 1, none⟩ (.int .i64 x)).setCell ⟨w.heap.size, 2, none⟩ (.slice bz n nz)) (some w.heap.size) := gr_set (gr_set (gr_set (grown_reflp _ _) 0 _) 1 _) 2 _
  have HR3 := hide (hv_gr HR2.out hg3 (by omega)); have HQ3 := hide (hv_gr HQ2.out hg3 (by omega))
  have HO3 := hide (row_gr HO.out hg3 (by omega))
  have HB4 := hide (below_gr HB3.out hg3 HB3.out.size (Nat.le_refl _))
  clear k0 k1 k2 kf HX2 HR2 HQ2 HO HB3 hg3
  generalize ((w2.setCell ⟨w.heap.size, 0, none⟩ (.int .i64 u)).setCell ⟨w.heap.size, 1, none⟩ (.int .i64 x)).setCell ⟨w.heap.size, 2, none⟩ (.slice bz n nz) = W at *
  have hBB2 : w.heap.size + 3 ≤ w1.heap.size + 2 := hBB
  generalize w1.heap.size + 2 = BB at *
  go_wp2_with fail
  go_loopw [7] (fun s w2 => ∃ i : Nat, i ≤ n ∧ s = .int .i64 i ∧ Hid (RowP w2 BB (.slice bz n nz) n os) ∧ Hid (HoldV w2 w.heap.size #[.int .i64 u, .int .i64 x, .slice bz n nz] 28) ∧ Hid (HoldV w2 (w.heap.size + 1) #[.int .i64 0, .int .i64 0, .slice none 0 0] 28) ∧ Hid (HoldV w2 (w.heap.size + 2) #[.int .i64 0, .int .i64 0, .int .i64 0, .int .i64 0, .bool false, .bool false] 36) ∧ Hid (Below w.heap.size w w2)) (fun s _ => n - (intOf s).toNat)
  case atStart => exact ⟨0, Nat.zero_le _, rfl, HO3, HX3, HR3, HQ3, HB4⟩
  case round =>
    obtain ⟨i, hi, rfl, HO, HX, HR, HQ, HB⟩ := hrel
    have k0 := HX.out.cell 0 _ rfl; have k1 := HX.out.cell 1 _ rfl; have k2 := HX.out.cell 2 _ rfl
    by_cases hlt : i < n
    · have hltn : i < n := by have := HLT.out; omega
      have hio : i < os.length := by rw [HN.out]; exact hltn
      obtain ⟨g, cp, e, hgB, hgl⟩ := HO.out.some (by omega)
      injection e with e1 e2 e3
      subst e1 e3
      have hfalse : os[i].f5 = false := HNO.out _ (List.getElem_mem hio)
      have c0 := HO.out.at HN.out hio (j := 0) (by omega); have c1 := HO.out.at HN.out hio (j := 1) (by omega); have c2 := HO.out.at HN.out hio (j := 2) (by omega); have c3 := HO.out.at HN.out hio (j := 3) (by omega); have c4 := HO.out.at HN.out hio (j := 4) (by omega); have c5 := HO.out.at HN.out hio (j := 5) (by omega)
      generalize os[i] = oo at *
      obtain ⟨x0, x1, x2, x3, x4, x5⟩ := oo
      have h5 : x5 = false := hfalse
      subst h5
      have d0 : wr.cell? ⟨g, i * 6, none⟩ = some (.int .i64 x0) := c0
      have d1 : wr.cell? ⟨g, i * 6 + 1, none⟩ = some (.int .i64 x1) := c1
      have d2 : wr.cell? ⟨g, i * 6 + 2, none⟩ = some (.int .i64 x2) := c2
      have d3 : wr.cell? ⟨g, i * 6 + 3, none⟩ = some (.int .i64 x3) := c3
      have d4 : wr.cell? ⟨g, i * 6 + 4, none⟩ = some (.bool x4) := c4
      have d5 : wr.cell? ⟨g, i * 6 + 5, none⟩ = some (.bool false) := c5
      clear c0 c1 c2 c3 c4 c5 hfalse
      have hal := (Below.refl wr.heap.size wr).alloc (Nat.le_refl _) (.cells #[.int .i64 x0, .int .i64 x1, .int .i64 x2, .int .i64 x3, .bool x4, .bool false] 36)
      have r5 := (hv_new wr #[.int .i64 x0, .int .i64 x1, .int .i64 x2, .int .i64 x3, .bool x4, .bool false] 36).cell 5 _ rfl
      have HO2 := hide (HO.out.next hal); have HX2 := hide (HX.out.next hal); have HR2 := hide (HR.out.next hal); have HQ2 := hide (HQ.out.next hal); have HB2 := hide (HB.out.trans (hal.mono HB.out.size))
      clear hal HO HX HR HQ HB
      go_wp2_with fail
      exact ⟨⟨i + 1, by omega, by go_num, HO2, HX2, HR2, HQ2, HB2⟩, by simp [intOf]; omega⟩
    · have hin : i = n := by omega
      subst hin
      have HR1 := HR; have HQ1 := HQ; have HB1 := HB
      have r0 := HR1.out.cell 0 _ rfl; have r1 := HR1.out.cell 1 _ rfl; have r2 := HR1.out.cell 2 _ rfl; have rf := HR1.out.frozen
      have q0 := HQ1.out.cell 0 _ rfl; have q1 := HQ1.out.cell 1 _ rfl; have q2 := HQ1.out.cell 2 _ rfl; have q3 := HQ1.out.cell 3 _ rfl; have q4 := HQ1.out.cell 4 _ rfl; have q5 := HQ1.out.cell 5 _ rfl; have qf := HQ1.out.frozen
      go_wp2_with fail
      exact bodyPost_ret (v := .tuple #[.agg #[.int .i64 0, .int .i64 0, .slice none 0 0], .agg #[.int .i64 0, .int .i64 0, .int .i64 0, .int .i64 0, .bool false, .bool false], .int .i64 13]) (by simp [results, Try.results12, go_sem, r0, r1, r2, q0, q1, q2, q3, q4, q5]) rfl ⟨_, rfl, ownP_nil _ _, below_gr (below_gr HB1.out (gr_set (gr_set (gr_set (grown_reflp _ _) 0 _) 1 _) 2 _) HB1.out.size (Nat.le_succ _)) (gr_set (gr_set (gr_set (gr_set (gr_set (gr_set (grown_reflp _ _) 0 _) 1 _) 2 _) 3 _) 4 _) 5 _) (by simp; exact HB1.out.size) (by omega)⟩

/-- What stays at the return. -/
structure S13 (w W : World) (BB g n nz PB : Nat) (u x x0 x1 t mn : Int) (x4 : Bool) (os : List PieceM) : Prop where
  bel : Below w.heap.size w W
  box : HoldV W w.heap.size #[.int .i64 u, .int .i64 x, .slice (some ⟨g, 0, none⟩) n nz] 28
  pb : HoldV W PB #[.int .i64 x0, .int .i64 x1, .int .i64 t, .int .i64 mn, .bool x4, .bool false] 36
  res : HoldV W (w.heap.size + 1) #[.int .i64 0, .int .i64 0, .slice none 0 0] 28 ∨ HoldV W (w.heap.size + 1) #[.int .i64 u, .int .i64 x, .slice (some ⟨g, 0, none⟩) n nz] 28
  rep : HoldV W (w.heap.size + 2) #[.int .i64 0, .int .i64 0, .int .i64 0, .int .i64 0, .bool false, .bool false] 36 ∨ HoldV W (w.heap.size + 2) #[.int .i64 x0, .int .i64 x1, .int .i64 t, .int .i64 mn, .bool x4, .bool false] 36
  row : RowP W BB (.slice (some ⟨g, 0, none⟩) n nz) n os
def A13 (X g n nz : Nat) (u x x0 x1 t mn : Int) (x4 : Bool) : Nat → Value → World → Prop
  | 0, v, _ => v = .agg #[.int .i64 u, .int .i64 x, .slice (some ⟨g, 0, none⟩) n nz]
  | 1, v, _ => v = .agg #[.int .i64 x0, .int .i64 x1, .int .i64 t, .int .i64 mn, .bool x4, .bool false]
  | 2, _, W => HoldV W (X + 1) #[.int .i64 u, .int .i64 x, .slice (some ⟨g, 0, none⟩) n nz] 28
  | 3, _, W => HoldV W (X + 2) #[.int .i64 x0, .int .i64 x1, .int .i64 t, .int .i64 mn, .bool x4, .bool false] 36
  | _, _, _ => True
theorem A13_kept {X g n nz : Nat} {u x x0 x1 t mn : Int} {x4 : Bool} : ∀ (i : Nat) (v : Value) (W W2 : World), ((HoldV W (X + 1) #[.int .i64 u, .int .i64 x, .slice (some ⟨g, 0, none⟩) n nz] 28 → HoldV W2 (X + 1) #[.int .i64 u, .int .i64 x, .slice (some ⟨g, 0, none⟩) n nz] 28) ∧ (HoldV W (X + 2) #[.int .i64 x0, .int .i64 x1, .int .i64 t, .int .i64 mn, .bool x4, .bool false] 36 → HoldV W2 (X + 2) #[.int .i64 x0, .int .i64 x1, .int .i64 t, .int .i64 mn, .bool x4, .bool false] 36)) → A13 X g n nz u x x0 x1 t mn x4 i v W → A13 X g n nz u x x0 x1 t mn x4 i v W2 := by
  intro i v W W2 hg h
  unfold A13 at h ⊢
  split at h
  all_goals first
    | exact h
    | exact hg.1 h
    | exact hg.2 h
end Go.Proofs.Ytfffkgladjphoaa
