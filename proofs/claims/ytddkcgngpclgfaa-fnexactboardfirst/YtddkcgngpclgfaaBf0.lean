/-
Contracts of functions of this seat.
-/
import Derived.Test.YtddkcgngpclgfaaRows
import Derived.WalkKit
import Derived.ProofKit
import Derived.OpenShut
import Derived.Test.YtddkcgngpclgfaaBl11
import Derived.Test.YtddkcgngpclgfaaL1BoardFirst
namespace Go.Proofs.Ytddkcgngpclgfaa
open Go.ChangeShapes Go.WideShapes Go.ChangeAt Go.RowKit
set_option linter.unusedVariables false
set_option maxRecDepth 100000
/-- The first piece, taken for lost; how many bytes. -/
def firstL : List PieceM → List PieceM
  | [] => []
  | o :: r => (if o.f4 = false ∧ o.f5 = false then lostP o else o) :: r
def firstN : List PieceM → Int
  | [] => 0
  | o :: _ => if o.f4 = false ∧ o.f5 = false then o.f1 - o.f0 else 0
theorem opFirst_len (os : List PieceM) : (firstL os).length = os.length := by cases os <;> rfl
set_option maxHeartbeats 8000000 in
theorem loseFirst_walk (B L : Nat) (u x : Int) (ns : List (Nat × PieceM)) (w : World) (h : DL w B L u x ns) (hB : B ≤ w.heap.size) (hok : bOK u x (ns.map Prod.snd)) :
    Calls Try.prog 40 #[.pointer (some ⟨L, 0, none⟩)] w fun e w' => ∃ ns2, e = .returned (.int .i64 (firstN (ns.map Prod.snd))) ∧ DL w' B L u x ns2 ∧ ns2.map Prod.snd = firstL (ns.map Prod.snd) ∧ Below B w w' := by
  have HD := hide h; have HOK := hide hok
  have l3 := h.head.cell 3 _ rfl
  cases ns with
  | nil =>
    have l3' : w.cell? ⟨L, 3, none⟩ = some (.pointer none) := l3
    clear l3 h hok
    go_enter Try.func40, Try.ntmps40
    go_wp2_with fail
    go_ret
    exact ⟨[], rfl, HD.out, rfl, Below.refl _ _⟩
  | cons p ns =>
    obtain ⟨c, q⟩ := p
    have l3' : w.cell? ⟨L, 3, none⟩ = some (.pointer (some ⟨c, 0, none⟩)) := l3
    have hC : HoldV w c (lpV q none (fstO ns none)) lpT := DL.at (xs := []) h
    have hcB : B ≤ c := h.lo c (by simp [bks])
    have hL := h.head.lt
    obtain ⟨q0, q1, q2⟩ : 0 ≤ q.f0 ∧ q.f0 < q.f1 ∧ q.f1 ≤ 1099511627776 := bOK_piece hok (by simp)
    have HC := hide hC
    obtain ⟨x0, x1, x2, x3, x4, x5⟩ := q
    have c0 := hC.cell 0 _ rfl; have c1 := hC.cell 1 _ rfl; have c2 := hC.cell 2 _ rfl; have c3 := hC.cell 3 _ rfl; have c4 := hC.cell 4 _ rfl; have c5 := hC.cell 5 _ rfl
    dsimp only at q0 q1 q2 c0 c1 c2 c3 c4 c5
    have CW := hide (onWay_walk x0 x1 x2 x3 x4 x5 w)
    clear l3 h hok hC
    cases hw : (!x4 && !x5) with
    | false =>
      have HV : Hid (firstN ((((c, (⟨x0, x1, x2, x3, x4, x5⟩ : PieceM)) :: ns)).map Prod.snd) = 0) := hide (by show (if x4 = false ∧ x5 = false then _ else _) = _; rw [if_neg (by cases x4 <;> cases x5 <;> simp_all)])
      have HL2 : Hid (firstL ((((c, (⟨x0, x1, x2, x3, x4, x5⟩ : PieceM)) :: ns)).map Prod.snd) = ((((c, (⟨x0, x1, x2, x3, x4, x5⟩ : PieceM)) :: ns)).map Prod.snd)) := hide (by show (if x4 = false ∧ x5 = false then _ else _) :: _ = _; rw [if_neg (by cases x4 <;> cases x5 <;> simp_all)]; rfl)
      rw [hw] at CW
      clear hw
      go_enter Try.func40, Try.ntmps40
      go_wp2_with (go_at_call 49; refine CW.out.mono ?_; rintro e w2 ⟨rfl, hw2⟩)
      go_ret
      exact ⟨_, ret_int HV.out.symm, HD.out.next hw2, HL2.out.symm, hw2.mono hB⟩
    | true =>
      have HV : Hid (firstN ((((c, (⟨x0, x1, x2, x3, x4, x5⟩ : PieceM)) :: ns)).map Prod.snd) = x1 - x0) := hide (by show (if x4 = false ∧ x5 = false then _ else _) = _; rw [if_pos (by cases x4 <;> cases x5 <;> simp_all)])
      have HL2 : Hid (firstL ((((c, (⟨x0, x1, x2, x3, x4, x5⟩ : PieceM)) :: ns)).map Prod.snd) = ((((c, lostP (⟨x0, x1, x2, x3, x4, x5⟩ : PieceM)) :: ns)).map Prod.snd)) := hide (by show (if x4 = false ∧ x5 = false then _ else _) :: _ = _; rw [if_pos (by cases x4 <;> cases x5 <;> simp_all)]; rfl)
      rw [hw] at CW
      clear hw
      go_enter Try.func40, Try.ntmps40
      go_upto_region 3 with (go_at_call 49; refine CW.out.mono ?_; rintro e w2 ⟨rfl, hw2⟩; have l3' := (HD.out.next hw2).head.cell 3 (.pointer (some ⟨c, 0, none⟩)) rfl)
      have CM := hide (markLost_walk c ⟨x0, x1, x2, x3, x4, x5⟩ _ _ w2 (HC.out.next hw2) q0 q1 q2)
      have hbs := hw2.size
      go_wp2_with fail
      refine CM.out.mono ?_
      rintro e w3 ⟨rfl, hc3, hg3⟩
      go_wp2_with fail
      go_ret
      refine ⟨(c, lostP ⟨x0, x1, x2, x3, x4, x5⟩) :: ns, ret_int HV.out.symm, ?_, HL2.out.symm, below_gr (hw2.mono hB) hg3 (by omega) hcB⟩
      exact (HD.out.next hw2).put (xs := []) (lostP ⟨x0, x1, x2, x3, x4, x5⟩) hc3 (fun k hk hlt => hg3.block k hlt (fun e => hk (Option.some.inj e)))

set_option maxHeartbeats 4000000 in
theorem implFirst_yes {u x : Int} {os : List PieceM} (hok : bOK u x os) : BoardFirstP 19 (fun _ => True) u x os u x (firstL os) (firstN os) 0 := by
  intro a n cap w hn ha hc hm _
  obtain ⟨hb2, hX, hR⟩ := two_boxes w #[.int .i64 u, .int .i64 x, .slice a n cap] #[.int .i64 0, .int .i64 0, .slice none 0 0] 29 29
  have HB2 := hide hb2; have HX := hide hX; have HR := hide hR
  have k0 := hX.cell 0 _ rfl; have k1 := hX.cell 1 _ rfl; have k2 := hX.cell 2 _ rfl
  have CV := hide (newPieceList_yes u x a n cap os ((w.alloc (.cells #[.int .i64 u, .int .i64 x, .slice a n cap] 29)).alloc (.cells #[.int .i64 0, .int .i64 0, .slice none 0 0] 29)) hn (ha.below hb2 (Nat.le_refl _)) hm hok)
  have HOK := hide hok
  have HN := hide hn
  have hV := hR.lt
  have HLL : Hid ((firstL os).length ≤ 1048576) := hide (by have := opFirst_len os; rw [this, hn]; exact hm)
  obtain ⟨rr, hrr⟩ : ∃ rr, rr = firstN os := ⟨_, rfl⟩
  rw [← hrr]
  have HRR := hide hrr
  clear hn ha hok hb2 hX hR hrr
  go_enter Try.func19, Try.ntmps19
  go_wp2_with fail
  generalize (w.alloc (.cells #[.int .i64 u, .int .i64 x, .slice a n cap] 29)).alloc (.cells #[.int .i64 0, .int .i64 0, .slice none 0 0] 29) = V at *
  refine CV.out.mono ?_
  rintro e w1 ⟨L, ns, rfl, hD, hM, hw1⟩
  have CL := hide (loseFirst_walk _ L u x ns w1 hD hw1.size (by rw [hM]; exact HOK.out))
  rw [hM, ← HRR.out] at CL
  have HR1 := hide (HR.out.next hw1)
  have HB1 : Hid (Below w.heap.size w w1) := hide (HB2.out.trans (hw1.mono HB2.out.size))
  have hV1 := hw1.size
  clear hD hM hw1 CV k0 k1 k2 HB2 HX HR
  go_wp2_with fail
  refine CL.out.mono ?_
  rintro e w2 ⟨ns2, rfl, hD2, hM2, hw2⟩
  have hlen : ns2.length ≤ 1048576 := by have := congrArg List.length hM2; rw [List.length_map] at this; rw [this]; exact HLL.out
  have CB := hide (board_walk _ L u x ns2 w2 hD2 hlen)
  rw [hM2] at CB
  have HR2 := hide (HR1.out.below hw2 hV)
  have HB3 : Hid (Below w.heap.size w w2) := hide (HB1.out.trans (hw2.mono (by omega)))
  have hV2 := hw2.size
  clear hD2 hM2 hw2 hlen CL HR1 HB1
  go_wp2_with fail
  refine CB.out.mono ?_
  rintro e w3 ⟨v, rfl, hO, hw3⟩
  obtain ⟨bz, nz, rfl, _⟩ := arrP_own hO
  have HR3 := hide (HR2.out.next hw3)
  have HO := hide (ownP_mono hO (C := w.heap.size + 2) (by omega))
  have HB4 : Hid (Below w.heap.size w w3) := hide (HB3.out.trans (hw3.mono HB3.out.size))
  have r0 := HR3.out.cell 0 _ rfl; have r1 := HR3.out.cell 1 _ rfl; have r2 := HR3.out.cell 2 _ rfl; have rf := HR3.out.frozen
  clear hO hw3 CB HB3 HR2
  go_wp2_with fail
  exact bodyPost_ret (v := .tuple #[.agg #[.int .i64 u, .int .i64 x, .slice bz (firstL os).length nz], .int .i64 rr, .int .i64 0]) (by simp [results, Try.results19, go_sem, r0, r1, r2]) rfl ⟨_, rfl, ownP_mono (ownP_gr HO.out (gr_set (gr_set (gr_set (grown_reflp _ _) 0 _) 1 _) 2 _) (Nat.lt_succ_self _)) (by omega), below_gr HB4.out (gr_set (gr_set (gr_set (grown_reflp _ _) 0 _) 1 _) 2 _) HB4.out.size (Nat.le_succ _)⟩
end Go.Proofs.Ytddkcgngpclgfaa
