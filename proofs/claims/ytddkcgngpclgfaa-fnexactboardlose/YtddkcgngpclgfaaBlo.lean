/-
Contracts of functions of this seat.
-/
import Derived.Test.YtddkcgngpclgfaaRows
import Derived.WalkKit
import Derived.ProofKit
import Derived.OpenShut
import Derived.Test.YtddkcgngpclgfaaBl11
import Derived.Test.YtddkcgngpclgfaaL1BoardLose
namespace Go.Proofs.Ytddkcgngpclgfaa
open Go.ChangeShapes Go.WideShapes Go.ChangeAt Go.RowKit
set_option linter.unusedVariables false
set_option maxRecDepth 100000
/-- How many are Sacked. -/
def sackN : List PieceM → Nat
  | [] => 0
  | o :: r => (if o.f4 = true then 1 else 0) + sackN r
/-- Whether a piece must be lost, with these behind it. -/
def mustL (o : PieceM) (r : List PieceM) : Prop := o.f3 = 1 ∧ o.f4 = false ∧ o.f5 = false ∧ 3 ≤ sackN r
instance (o : PieceM) (r : List PieceM) : Decidable (mustL o r) := by unfold mustL; infer_instance
def loseL : List PieceM → List PieceM
  | [] => []
  | o :: r => (if mustL o r then lostP o else o) :: loseL r
def loseN : List PieceM → Int
  | [] => 0
  | o :: r => (if mustL o r then o.f1 - o.f0 else 0) + loseN r
theorem opLose_len : ∀ (os : List PieceM), (loseL os).length = os.length
  | [] => rfl
  | o :: r => by show (loseL r).length + 1 = r.length + 1; rw [opLose_len r]
theorem sackN_le : ∀ (os : List PieceM), sackN os ≤ os.length
  | [] => Nat.le_refl _
  | o :: r => by
    have := sackN_le r
    show (if o.f4 = true then 1 else 0) + sackN r ≤ r.length + 1
    split <;> omega
theorem lose_le : ∀ (a : List PieceM) (u m : Int), chk u a = some m → 0 ≤ loseN a ∧ loseN a ≤ m - u
  | [], u, m, h => by cases h; simp [loseN]
  | o :: a, u, m, h => by
    by_cases hh : o.f0 = u ∧ vp o
    · rw [chk_cons hh.1 hh.2] at h
      have h1 := lose_le a _ _ h
      have h2 := hh.2.1
      unfold loseN
      split <;> omega
    · rw [chk_ill hh] at h; cases h
theorem bOK_tail {u x : Int} {a b : List PieceM} (h : bOK u x (a ++ b)) : 0 ≤ loseN b ∧ loseN b ≤ 1099511627776 := by
  obtain ⟨m, h1, h2⟩ := chk_app a b _ _ h.2.2.2
  have h3 := lose_le _ _ _ h2
  have h4 := chk_le _ _ _ h1
  have := h.1; have := h.2.1
  omega
/-- Where a pointer to a linked piece stands: how many are left up to it. -/
def posB (bs : List Nat) (t : Value) : Nat := match t with
  | .pointer (some p) => bs.idxOf p.block + 1
  | _ => 0
theorem posB_at {xs ys : List (Nat × PieceM)} {L c : Nat} {q : PieceM} (h : (L :: bks (xs ++ (c, q) :: ys)).Nodup) : posB (bks (xs ++ (c, q) :: ys)) (.pointer (some ⟨c, 0, none⟩)) = xs.length + 1 := by
  obtain ⟨h1, _⟩ := nd_mid h
  show (bks (xs ++ (c, q) :: ys)).idxOf c + 1 = _
  have e : bks (xs ++ (c, q) :: ys) = bks xs ++ c :: bks ys := by simp [bks]
  rw [e, List.idxOf_append, if_neg h1, List.idxOf_cons_self]
  simp [bks]
theorem posB_last {xs ys : List (Nat × PieceM)} {L : Nat} (h : (L :: bks (xs ++ ys)).Nodup) : posB (bks (xs ++ ys)) (ptO (lstO none xs)) = xs.length := by
  rcases List.eq_nil_or_concat xs with rfl | ⟨xs0, ⟨p, op⟩, rfl⟩
  · rfl
  · rw [List.concat_eq_append] at h ⊢
    rw [lstO_snoc, List.append_assoc] at *
    rw [List.length_append]
    exact posB_at h
set_option maxHeartbeats 16000000 in
theorem overtaken_walk (B L : Nat) (u x : Int) (ns : List (Nat × PieceM)) (w : World) (h : DL w B L u x ns) (hB : B ≤ w.heap.size) (hok : bOK u x (ns.map Prod.snd)) :
    Calls Try.prog 45 #[.pointer (some ⟨L, 0, none⟩)] w fun e w' => ∃ ns2, e = .returned (.int .i64 (loseN (ns.map Prod.snd))) ∧ DL w' B L u x ns2 ∧ ns2.map Prod.snd = loseL (ns.map Prod.snd) ∧ Below B w w' := by
  have HD0 := hide h; have HOK := hide hok
  have l4 := h.head.cell 4 _ rfl
  have HLN := hide h.nd
  have HS : Hid (∀ xs ys : List (Nat × PieceM), ns = xs ++ ys → sackN (ys.map Prod.snd) ≤ 4096 ∧ 0 ≤ loseN (ys.map Prod.snd) ∧ loseN (ys.map Prod.snd) ≤ 1099511627776) := hide (fun xs ys e => by
    have h1 := hok
    rw [e, List.map_append] at h1
    have h2 := bOK_tail h1
    have h3 := sackN_le (ys.map Prod.snd)
    have h4 := h1.2.2.1
    rw [List.length_append] at h4
    exact ⟨by omega, h2⟩)
  clear h hok
  go_enter Try.func45, Try.ntmps45
  go_wp2_with fail
  clear l4
  go_loopw [3, 4, 5] (fun s k t w2 => ∃ xs ys zs : List (Nat × PieceM), Hid (ns = xs ++ ys) ∧ t = ptO (lstO none xs) ∧ s = .int .i64 (loseN (ys.map Prod.snd)) ∧ k = .int .i64 ((sackN (ys.map Prod.snd) : Nat) : Int) ∧ Hid (zs.map Prod.snd = loseL (ys.map Prod.snd)) ∧ Hid (DL w2 B L u x (xs ++ zs)) ∧ Hid (Below B w w2)) (fun _ _ t _ => posB (bks ns) t)
  case atStart => exact ⟨ns, [], [], hide (by simp), rfl, rfl, rfl, hide rfl, hide (by rw [List.append_nil]; exact HD0.out), hide (Below.refl _ _)⟩
  case round =>
    obtain ⟨xs, ys, zs, HXY, rfl, rfl, rfl, HZ, HD, HB⟩ := hrel
    obtain ⟨b1, b2, b3⟩ := HS.out xs ys HXY.out
    rcases List.eq_nil_or_concat xs with hxs | ⟨xs0, ⟨c, q⟩, hxs⟩
    · subst hxs
      have HF : Hid (loseN (ys.map Prod.snd) = loseN (ns.map Prod.snd)) := hide (by rw [HXY.out]; rfl)
      have HZ2 : Hid (zs.map Prod.snd = loseL (ns.map Prod.snd)) := hide (by rw [HXY.out]; exact HZ.out)
      generalize loseN (ys.map Prod.snd) = s at *
      simp only [show ptO (lstO none ([] : List (Nat × PieceM))) = Value.pointer none from rfl]
      go_wp2_with fail
      go_ret
      exact ⟨zs, ret_int HF.out, HD.out, HZ2.out, HB.out⟩
    · rw [List.concat_eq_append] at hxs
      subst hxs
      have HXY2 : Hid (ns = xs0 ++ ((c, q) :: ys)) := hide (by rw [HXY.out]; simp)
      have HP1 : Hid (posB (bks ns) (.pointer (some ⟨c, 0, none⟩)) = xs0.length + 1) := hide (by rw [HXY2.out]; exact posB_at (by rw [← HXY2.out]; exact HLN.out))
      have HP2 : Hid (posB (bks ns) (ptO (lstO none xs0)) = xs0.length) := hide (by rw [HXY2.out]; exact posB_last (by rw [← HXY2.out]; exact HLN.out))
      have HD2 : Hid (DL wr B L u x (xs0 ++ (c, q) :: zs)) := hide (by have := HD.out; rw [List.append_assoc] at this; exact this)
      obtain ⟨b1', b2', b3'⟩ := HS.out xs0 _ HXY2.out
      obtain ⟨q0, q1, q2⟩ : 0 ≤ q.f0 ∧ q.f0 < q.f1 ∧ q.f1 ≤ 1099511627776 := bOK_piece HOK.out (by rw [HXY2.out]; simp)
      have HC := hide HD2.out.at
      have hcB : B ≤ c := HD2.out.lo c (by simp [bks])
      have hbs := HB.out.size
      have HN1 : Hid (loseN (((c, q) :: ys).map Prod.snd) = (if mustL q (ys.map Prod.snd) then q.f1 - q.f0 else 0) + loseN (ys.map Prod.snd)) := hide rfl
      have HN2 : Hid (sackN (((c, q) :: ys).map Prod.snd) = (if q.f4 = true then 1 else 0) + sackN (ys.map Prod.snd)) := hide rfl
      have HN3 : Hid (loseL (((c, q) :: ys).map Prod.snd) = (if mustL q (ys.map Prod.snd) then lostP q else q) :: loseL (ys.map Prod.snd)) := hide rfl
      have HMU : Hid (mustL q (ys.map Prod.snd) ↔ q.f3 = 1 ∧ q.f4 = false ∧ q.f5 = false ∧ 3 ≤ sackN (ys.map Prod.snd)) := hide Iff.rfl
      simp only [lstO_snoc, show ptO (some c) = Value.pointer (some ⟨c, 0, none⟩) from rfl]
      obtain ⟨x0, x1, x2, x3, x4, x5⟩ := q
      try dsimp only at q0 q1 q2
      have c0 := HC.out.cell 0 _ rfl; have c1 := HC.out.cell 1 _ rfl; have c2 := HC.out.cell 2 _ rfl; have c3 := HC.out.cell 3 _ rfl; have c4 := HC.out.cell 4 _ rfl; have c5 := HC.out.cell 5 _ rfl; have c6 := HC.out.cell 6 _ rfl
      try dsimp only at c0 c1 c2 c3 c4 c5
      clear b1' b2' b3' HXY HD
      generalize loseN (ys.map Prod.snd) = s at *
      generalize sackN (ys.map Prod.snd) = k at *
      have CW := hide (onWay_walk x0 x1 x2 x3 x4 x5 wr)
      by_cases hm : mustL (⟨x0, x1, x2, x3, x4, x5⟩ : PieceM) (ys.map Prod.snd)
      · obtain ⟨m1, m2, m3, m4⟩ := HMU.out.1 hm
        have hm1 : x3 = 1 := m1
        have hm2 : x4 = false := m2
        have hm3 : x5 = false := m3
        subst hm1 hm2 hm3
        have HNA : Hid (loseN (((c, (⟨x0, x1, x2, 1, false, false⟩ : PieceM)) :: ys).map Prod.snd) = s + (x1 - x0)) := hide (by rw [HN1.out, if_pos hm]; show x1 - x0 + s = _; omega)
        have HNB : Hid (((sackN (((c, (⟨x0, x1, x2, 1, false, false⟩ : PieceM)) :: ys).map Prod.snd) : Nat) : Int) = (k : Int)) := hide (by rw [HN2.out]; simp)
        have HNC : Hid (((c, lostP (⟨x0, x1, x2, 1, false, false⟩ : PieceM)) :: zs).map Prod.snd = loseL (((c, (⟨x0, x1, x2, 1, false, false⟩ : PieceM)) :: ys).map Prod.snd)) := hide (by rw [HN3.out, if_pos hm, ← HZ.out]; rfl)
        have m4' : (3 : Int) ≤ (k : Int) := by omega
        clear hm m1 m2 m3 m4 HMU HN1 HN2 HN3
        go_wp2_with (go_at_call 49; refine CW.out.mono ?_; rintro e w3 ⟨rfl, hw3⟩; have c3' := (HC.out.next hw3).cell 3 (.int .i64 1) rfl)
        have CM := hide (markLost_walk c ⟨x0, x1, x2, 1, false, false⟩ _ _ w3 (HC.out.next hw3) q0 q1 q2)
        have hws := hw3.size
        refine CM.out.mono ?_
        rintro e w4 ⟨rfl, hc4, hg4⟩
        have HD4 : Hid (DL w4 B L u x (xs0 ++ (c, lostP (⟨x0, x1, x2, 1, false, false⟩ : PieceM)) :: zs)) := hide ((HD2.out.next hw3).put _ hc4 (fun k hk hlt => hg4.block k hlt (fun e => hk (Option.some.inj e))))
        have HB4 : Hid (Below B w w4) := hide (below_gr (HB.out.trans (hw3.mono (by omega))) hg4 (by omega) hcB)
        have c6' := hc4.cell 6 _ rfl
        clear hc4 hg4 CM hw3 c3' c0 c1 c2 c3 c4 c5 c6
        go_wp2_with fail
        exact ⟨⟨xs0, _, _, HXY2, rfl, by rw [HNA.out], by rw [HNB.out], HNC, HD4, HB4⟩, by rw [HP1.out, HP2.out]; omega⟩
      · have HNA : Hid (loseN (((c, (⟨x0, x1, x2, x3, x4, x5⟩ : PieceM)) :: ys).map Prod.snd) = s) := hide (by rw [HN1.out, if_neg hm]; omega)
        have HNC : Hid (((c, (⟨x0, x1, x2, x3, x4, x5⟩ : PieceM)) :: zs).map Prod.snd = loseL (((c, (⟨x0, x1, x2, x3, x4, x5⟩ : PieceM)) :: ys).map Prod.snd)) := hide (by rw [HN3.out, if_neg hm, ← HZ.out]; rfl)
        have hm' : ¬ (x3 = 1 ∧ x4 = false ∧ x5 = false ∧ 3 ≤ k) := fun h => hm (HMU.out.2 h)
        clear hm HMU HN1 HN3
        cases x4 with
        | true =>
          have HNB : Hid (((sackN (((c, (⟨x0, x1, x2, x3, true, x5⟩ : PieceM)) :: ys).map Prod.snd) : Nat) : Int) = (k : Int) + 1) := hide (by rw [HN2.out]; simp; omega)
          clear hm' HN2
          go_wp2_with fail
          exact ⟨⟨xs0, _, _, HXY2, rfl, by rw [HNA.out], by rw [HNB.out], HNC, HD2, HB⟩, by rw [HP1.out, HP2.out]; omega⟩
        | false =>
          have HNB : Hid (((sackN (((c, (⟨x0, x1, x2, x3, false, x5⟩ : PieceM)) :: ys).map Prod.snd) : Nat) : Int) = (k : Int)) := hide (by rw [HN2.out]; simp)
          clear HN2
          have HDN : Hid (∀ W, Below wr.heap.size wr W → DL W B L u x (xs0 ++ (c, (⟨x0, x1, x2, x3, false, x5⟩ : PieceM)) :: zs) ∧ Below B w W) := hide (fun W hW => ⟨HD2.out.next hW, HB.out.trans (hW.mono (by omega))⟩)
          cases x5 with
          | true =>
            clear hm'
            go_wp2_with (go_at_call 49; refine CW.out.mono ?_; rintro e w3 ⟨rfl, hw3⟩; have c6' := (HC.out.next hw3).cell 6 _ rfl)
            exact ⟨⟨xs0, _, _, HXY2, rfl, by rw [HNA.out], by rw [HNB.out], HNC, hide (HDN.out _ hw3).1, hide (HDN.out _ hw3).2⟩, by rw [HP1.out, HP2.out]; omega⟩
          | false =>
            by_cases h3 : x3 = 1
            · have hk : ¬ (3 : Int) ≤ (k : Int) := fun h => hm' ⟨h3, rfl, rfl, by omega⟩
              subst h3
              clear hm'
              go_wp2_with (go_at_call 49; refine CW.out.mono ?_; rintro e w3 ⟨rfl, hw3⟩; have c3' := (HC.out.next hw3).cell 3 (.int .i64 1) rfl; have c6' := (HC.out.next hw3).cell 6 _ rfl)
              exact ⟨⟨xs0, _, _, HXY2, rfl, by rw [HNA.out], by rw [HNB.out], HNC, hide (HDN.out _ hw3).1, hide (HDN.out _ hw3).2⟩, by rw [HP1.out, HP2.out]; omega⟩
            · have h3' : (x3 == 1) = false := beq_eq_false_iff_ne.2 h3
              clear hm'
              go_wp2_with (go_at_call 49; refine CW.out.mono ?_; rintro e w3 ⟨rfl, hw3⟩; have c3' := (HC.out.next hw3).cell 3 (.int .i64 x3) rfl; have c6' := (HC.out.next hw3).cell 6 _ rfl)
              exact ⟨⟨xs0, _, _, HXY2, rfl, by rw [HNA.out], by rw [HNB.out], HNC, hide (HDN.out _ hw3).1, hide (HDN.out _ hw3).2⟩, by rw [HP1.out, HP2.out]; omega⟩

set_option maxHeartbeats 4000000 in
theorem implLose_yes {u x : Int} {os : List PieceM} (hok : bOK u x os) : BoardLoseP 25 (fun _ => True) u x os u x (loseL os) (loseN os) 0 := by
  intro a n cap w hn ha hc hm _
  obtain ⟨hb2, hX, hR⟩ := two_boxes w #[.int .i64 u, .int .i64 x, .slice a n cap] #[.int .i64 0, .int .i64 0, .slice none 0 0] 29 29
  have HB2 := hide hb2; have HX := hide hX; have HR := hide hR
  have k0 := hX.cell 0 _ rfl; have k1 := hX.cell 1 _ rfl; have k2 := hX.cell 2 _ rfl
  have CV := hide (newPieceList_yes u x a n cap os ((w.alloc (.cells #[.int .i64 u, .int .i64 x, .slice a n cap] 29)).alloc (.cells #[.int .i64 0, .int .i64 0, .slice none 0 0] 29)) hn (ha.below hb2 (Nat.le_refl _)) hm hok)
  have HOK := hide hok
  have HN := hide hn
  have hV := hR.lt
  have HLL : Hid ((loseL os).length ≤ 1048576) := hide (by have := opLose_len os; rw [this, hn]; exact hm)
  obtain ⟨rr, hrr⟩ : ∃ rr, rr = loseN os := ⟨_, rfl⟩
  rw [← hrr]
  have HRR := hide hrr
  clear hn ha hok hb2 hX hR hrr
  go_enter Try.func25, Try.ntmps25
  go_wp2_with fail
  generalize (w.alloc (.cells #[.int .i64 u, .int .i64 x, .slice a n cap] 29)).alloc (.cells #[.int .i64 0, .int .i64 0, .slice none 0 0] 29) = V at *
  refine CV.out.mono ?_
  rintro e w1 ⟨L, ns, rfl, hD, hM, hw1⟩
  have CL := hide (overtaken_walk _ L u x ns w1 hD hw1.size (by rw [hM]; exact HOK.out))
  rw [hM, ← HRR.out] at CL
  have HR1 := hide (HR.out.next hw1)
  have HB1 : Hid (Below w.heap.size w w1) := hide (HB2.out.trans (hw1.mono HB2.out.size))
  have hV1 := hw1.size
  clear hD hM hw1 CV k0 k1 k2 HB2 HX HR
  go_wp2_with fail
  refine CL.out.mono ?_
  rintro e w2 ⟨ns2, rfl, hD2, hM2, hw2⟩
  have hlen : ns2.length ≤ 1048576 := by have := congrArg List.length hM2; rw [List.length_map] at this; rw [this]; exact HLL.out
  have CB := hide (board_walk _ L u x ns2 w2 hD2 hlen)
  rw [hM2] at CB
  have HR2 := hide (HR1.out.below hw2 hV)
  have HB3 : Hid (Below w.heap.size w w2) := hide (HB1.out.trans (hw2.mono (by omega)))
  have hV2 := hw2.size
  clear hD2 hM2 hw2 hlen CL HR1 HB1
  go_wp2_with fail
  refine CB.out.mono ?_
  rintro e w3 ⟨v, rfl, hO, hw3⟩
  obtain ⟨bz, nz, rfl, _⟩ := arrP_own hO
  have HR3 := hide (HR2.out.next hw3)
  have HO := hide (ownP_mono hO (C := w.heap.size + 2) (by omega))
  have HB4 : Hid (Below w.heap.size w w3) := hide (HB3.out.trans (hw3.mono HB3.out.size))
  have r0 := HR3.out.cell 0 _ rfl; have r1 := HR3.out.cell 1 _ rfl; have r2 := HR3.out.cell 2 _ rfl; have rf := HR3.out.frozen
  clear hO hw3 CB HB3 HR2
  go_wp2_with fail
  exact bodyPost_ret (v := .tuple #[.agg #[.int .i64 u, .int .i64 x, .slice bz (loseL os).length nz], .int .i64 rr, .int .i64 0]) (by simp [results, Try.results25, go_sem, r0, r1, r2]) rfl ⟨_, rfl, ownP_mono (ownP_gr HO.out (gr_set (gr_set (gr_set (grown_reflp _ _) 0 _) 1 _) 2 _) (Nat.lt_succ_self _)) (by omega), below_gr HB4.out (gr_set (gr_set (gr_set (grown_reflp _ _) 0 _) 1 _) 2 _) HB4.out.size (Nat.le_succ _)⟩
end Go.Proofs.Ytddkcgngpclgfaa
