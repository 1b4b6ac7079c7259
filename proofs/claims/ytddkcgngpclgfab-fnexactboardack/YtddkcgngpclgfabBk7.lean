/-
Contracts of functions of this seat.
-/
import Derived.Test.YtddkcgngpclgfabRows
import Derived.WalkKit
import Derived.ProofKit
import Derived.OpenShut
import Derived.Test.YtddkcgngpclgfabBk6
namespace Go.Proofs.Ytddkcgngpclgfab
open Go.ChangeShapes Go.WideShapes Go.ChangeAt Go.RowKit
set_option linter.unusedVariables false
set_option maxRecDepth 100000
theorem sac_ackH (ack x : Int) (zs : List Int) : ∀ os : List PieceM, (ackH ack os).map (sacF ack x zs) = ackL ack x zs os ∧ sacG ack x zs (ackH ack os) = ackG ack x zs os
  | [] => ⟨rfl, rfl⟩
  | o :: r => by
    obtain ⟨h1, h2⟩ := sac_ackH ack x zs r
    by_cases h : ack < o.f1
    · have e : sacF ack x zs (cutP ack o) = ackF ack x zs o := rfl
      rw [ackH_cons h, List.map_cons, e, h1, show o :: r = [o] ++ r from rfl, ackL_app, ack_keep (Int.not_le.2 h), ackG_app]
      refine ⟨rfl, ?_⟩
      show (if sacB ack x zs (cutP ack o) = true then o.f1 - max o.f0 ack else 0) + sacG ack x zs (ackH ack r) = ((if ack < o.f1 ∧ nwB ack x zs o = true then o.f1 - max o.f0 ack else 0) + 0) + ackG ack x zs r
      rw [h2, Int.add_zero, show sacB ack x zs (cutP ack o) = nwB ack x zs o from rfl]
      by_cases hc : nwB ack x zs o = true
      · rw [if_pos hc, if_pos ⟨h, hc⟩]
      · rw [if_neg hc, if_neg (fun hh => hc hh.2)]
    · have h3 := Int.not_lt.1 h
      rw [show o :: r = [o] ++ r from rfl, ackH_app, ackH_gone [o] (by intro p hp; simp at hp; subst hp; exact h3), List.nil_append, ackL_app, (ack_gone (ack := ack) (x := x) (zs := zs) (p := o) h3).1, ackG_app, (ack_gone (ack := ack) (x := x) (zs := zs) (p := o) h3).2, List.nil_append, Int.zero_add]
      exact ⟨h1, h2⟩

set_option maxHeartbeats 16000000 in
theorem implAck_yes {u x : Int} {os : List PieceM} (ack : Int) (zs : List Int) (hok : bOK u x os) (hs : u ≤ ack ∧ ack ≤ x) (hz : zs.length ≤ 6) : BoardAckP 16 (fun _ => True) u x os ack zs ack x (ackL ack x zs os) (ack - u) (ackG ack x zs os) (ackS ack os) 0 := by
  intro a n cap aq nq cq w hn ha hc hm hn2 ha2 hc2 hm2 _
  obtain ⟨hb3, hX, hRA, hRB⟩ := three_boxes w #[.int .i64 u, .int .i64 x, .slice a n cap] #[.int .i64 0, .int .i64 0, .slice none 0 0] #[.int .i64 0, .int .i64 0, .int .i64 0] 28 28 41
  have HB2 := hide hb3; have HX := hide hX; have HRA := hide hRA; have HRB := hide hRB
  have k0 := hX.cell 0 _ rfl; have k1 := hX.cell 1 _ rfl; have k2 := hX.cell 2 _ rfl
  have CV := hide (newPieceList_yes u x a n cap os (((w.alloc (.cells #[.int .i64 u, .int .i64 x, .slice a n cap] 28)).alloc (.cells #[.int .i64 0, .int .i64 0, .slice none 0 0] 28)).alloc (.cells #[.int .i64 0, .int .i64 0, .int .i64 0] 41)) hn (ha.below hb3 (Nat.le_refl _)) hm hok)
  have HOK := hide hok; have HZ0 := hide ha2; have HNZ := hide hn2; have HMZ := hide hm2
  have hV : w.heap.size + 2 < (((w.alloc (.cells #[.int .i64 u, .int .i64 x, .slice a n cap] 28)).alloc (.cells #[.int .i64 0, .int .i64 0, .slice none 0 0] 28)).alloc (.cells #[.int .i64 0, .int .i64 0, .int .i64 0] 41)).heap.size := hRB.lt
  obtain ⟨kk1, kk2⟩ := hs
  have hu0 : 0 ≤ u := hok.1
  have hx0 : x ≤ 1099511627776 := hok.2.1
  have hnq : (nq : Int) ≤ 3 := by omega
  have hwu : IntKind.i64.wrap (ack - u) = ack - u := by rw [IntKind.wrap_i64]; omega
  have HLL : Hid ((ackL ack x zs os).length ≤ 1048576) := hide (by have h1 := ackL_len ack x zs os; have h2 := hok.2.2.1; omega)
  obtain ⟨G, hG⟩ : ∃ G, G = ackG ack x zs os := ⟨_, rfl⟩
  obtain ⟨S, hS⟩ : ∃ S, S = ackS ack os := ⟨_, rfl⟩
  rw [← hG, ← hS]
  have HG := hide hG; have HS := hide hS
  clear hn ha ha2 hn2 hm2 hok hb3 hX hRA hRB hz hG hS
  go_enter Try.func16, Try.ntmps16
  go_wp2_with fail
  generalize ((w.alloc (.cells #[.int .i64 u, .int .i64 x, .slice a n cap] 28)).alloc (.cells #[.int .i64 0, .int .i64 0, .slice none 0 0] 28)).alloc (.cells #[.int .i64 0, .int .i64 0, .int .i64 0] 41) = V at *
  refine CV.out.mono ?_
  rintro e w1 ⟨L, ns, rfl, hD, hM, hw1⟩
  have HX1 := hide (HX.out.next hw1); have HRA1 := hide (HRA.out.next hw1); have HRB1 := hide (HRB.out.next hw1)
  have HB1 : Hid (Below w.heap.size w w1) := hide (HB2.out.trans (hw1.mono HB2.out.size))
  have hV1 : V.heap.size ≤ w1.heap.size := hw1.size
  have HD1 := hide hD; have HM1 := hide hM
  clear hD hM hw1 CV k0 k1 k2 HB2 HX HRA HRB
  have k0 := HX1.out.cell 0 _ rfl; have k1 := HX1.out.cell 1 _ rfl; have k2 := HX1.out.cell 2 _ rfl
  go_upto_region 4 with fail
  have hal := (Below.refl w1.heap.size w1).alloc (Nat.le_refl _) (.cells #[.int .i64 (ack - u), .int .i64 0, .int .i64 0] 41)
  have HNB : Hid (HoldV (w1.alloc (.cells #[.int .i64 (ack - u), .int .i64 0, .int .i64 0] 41)) w1.heap.size #[.int .i64 (ack - u), .int .i64 0, .int .i64 0] 41) := hide (hv_new w1 #[.int .i64 (ack - u), .int .i64 0, .int .i64 0] 41)
  have HX2 := hide (HX1.out.next hal); have HRA2 := hide (HRA1.out.next hal); have HRB2 := hide (HRB1.out.next hal); have HD2 := hide (HD1.out.next hal); have HB2 : Hid (Below w.heap.size w _) := hide (HB1.out.trans (hal.mono HB1.out.size))
  have HNL : Hid (w1.heap.size ∉ L :: bks ns) := hide (fun h => by have := HD1.out.lt _ h; omega)
  have CA := hide (acknowledge_walk V.heap.size L u x ack ns (w1.alloc (.cells #[.int .i64 (ack - u), .int .i64 0, .int .i64 0] 41)) HD2.out (by have := hal.size; omega) (by rw [HM1.out]; exact HOK.out) kk1)
  rw [HM1.out, ← HS.out] at CA
  have hsz := World.size_alloc w1 (.cells #[.int .i64 (ack - u), .int .i64 0, .int .i64 0] 41)
  clear hal HX1 HRA1 HRB1 HB1 HD1
  go_wp2_with fail
  clear k0 k1 k2
  generalize w1.alloc (.cells #[.int .i64 (ack - u), .int .i64 0, .int .i64 0] 41) = W2 at *
  refine CA.out.mono ?_
  rintro e w3 ⟨ns2, rfl, hD3, hM3, hb3, hf3, hsub⟩
  obtain ⟨NB, hNB⟩ : ∃ NB, NB = w1.heap.size := ⟨_, rfl⟩
  rw [← hNB] at HNB HNL hsz
  have hVN : V.heap.size ≤ NB := by omega
  have hN2 : NB < W2.heap.size := by omega
  have HNL2 : Hid (NB ∉ L :: bks ns2) := hide (fun h => HNL.out ((List.mem_cons.1 h).elim (fun h => List.mem_cons.2 (.inl h)) (fun h => List.mem_cons.2 (.inr (hsub _ h)))))
  have HN3 : Hid (HoldV w3 NB #[.int .i64 (ack - u), .int .i64 0, .int .i64 0] 41) := hide ((hf3.2 NB hN2 HNL.out).trans HNB.out)
  have HX3 := hide (HX2.out.below hb3 (by omega)); have HRA3 := hide (HRA2.out.below hb3 (by omega)); have HRB3 := hide (HRB2.out.below hb3 (by omega))
  have HB3 : Hid (Below w.heap.size w w3) := hide (HB2.out.trans (hb3.mono (by omega)))
  have hs3 := hf3.1
  have n2 := HN3.out.cell 2 _ rfl; have nf := HN3.out.frozen
  have hg : w3.grownBy (w3.setCell ⟨NB, 2, none⟩ (.int .i64 S)) (some NB) := gr_set (grown_reflp _ _) 2 _
  have HX4 := hide (hv_gr HX3.out hg (by omega)); have HRA4 := hide (hv_gr HRA3.out hg (by omega)); have HRB4 := hide (hv_gr HRB3.out hg (by omega))
  have HN4 : Hid (HoldV (w3.setCell ⟨NB, 2, none⟩ (.int .i64 S)) NB #[.int .i64 (ack - u), .int .i64 0, .int .i64 S] 41) := hide (hv_set HN3.out 2 (.int .i64 S))
  have HD4 : Hid (DL (w3.setCell ⟨NB, 2, none⟩ (.int .i64 S)) V.heap.size L ack x ns2) := hide (hD3.frame (fun b hb => hg.block b (hD3.lt b hb) (fun e => HNL2.out (by rw [← Option.some.inj e]; exact hb))))
  have HB4 : Hid (Below w.heap.size w (w3.setCell ⟨NB, 2, none⟩ (.int .i64 S))) := hide (below_gr HB3.out hg HB3.out.size (by omega))
  have HV4 : (w3.setCell ⟨NB, 2, none⟩ (.int .i64 S)).heap.size = w3.heap.size := World.size_setCell _ _ _
  have hVE : sacG ack x zs (ns2.map Prod.snd) = G := by rw [hM3, HG.out]; exact (sac_ackH ack x zs os).2
  have HLE : Hid ((chgN (sacF ack x zs) ns2).map Prod.snd = ackL ack x zs os) := hide (by rw [chgN_snd, hM3]; exact (sac_ackH ack x zs os).1)
  have CS := hide (sack_walk V.heap.size L ack x ns2 aq nq cq zs w (w3.setCell ⟨NB, 2, none⟩ (.int .i64 S)) HD4.out (by omega) (by rw [hM3]; exact ackH_ok HOK.out kk1 kk2) HNZ.out HZ0.out (by omega) HB4.out HMZ.out)
  rw [hVE] at CS
  have hNw : NB < w3.heap.size := by omega
  clear hD3 hM3 hb3 hf3 hsub CA hVE hg HX3 HRA3 HRB3 HN3 HB3 HNB HX2 HRA2 HRB2 HB2 HD2 HD4
  simp only [← hNB]
  clear hNB
  go_wp2_with fail
  clear n2 nf
  generalize w3.setCell ⟨NB, 2, none⟩ (.int .i64 S) = W4 at *
  refine CS.out.mono ?_
  rintro e w5 ⟨rfl, hD5, hb5, hf5⟩
  have HN5 : Hid (HoldV w5 NB #[.int .i64 (ack - u), .int .i64 0, .int .i64 S] 41) := hide ((hf5.2 NB (by omega) HNL2.out).trans HN4.out)
  have HX5 := hide (HX4.out.below hb5 (by omega)); have HRA5 := hide (HRA4.out.below hb5 (by omega)); have HRB5 := hide (HRB4.out.below hb5 (by omega))
  have HB5 : Hid (Below w.heap.size w w5) := hide (HB4.out.trans (hb5.mono (by omega)))
  have hs5 := hf5.1
  have n1 := HN5.out.cell 1 _ rfl; have nf := HN5.out.frozen
  have hg : w5.grownBy (w5.setCell ⟨NB, 1, none⟩ (.int .i64 G)) (some NB) := gr_set (grown_reflp _ _) 1 _
  have HRA6 := hide (hv_gr HRA5.out hg (by omega)); have HRB6 := hide (hv_gr HRB5.out hg (by omega))
  have HN6 : Hid (HoldV (w5.setCell ⟨NB, 1, none⟩ (.int .i64 G)) NB #[.int .i64 (ack - u), .int .i64 G, .int .i64 S] 41) := hide (hv_set HN5.out 1 (.int .i64 G))
  have HD6 : Hid (DL (w5.setCell ⟨NB, 1, none⟩ (.int .i64 G)) V.heap.size L ack x (chgN (sacF ack x zs) ns2)) := hide (hD5.frame (fun b hb => hg.block b (hD5.lt b hb) (fun e => HNL2.out (by rw [← Option.some.inj e]; rw [chgN_bks] at hb; exact hb))))
  have HB6 : Hid (Below w.heap.size w (w5.setCell ⟨NB, 1, none⟩ (.int .i64 G))) := hide (below_gr HB5.out hg HB5.out.size (by omega))
  have HV6 : (w5.setCell ⟨NB, 1, none⟩ (.int .i64 G)).heap.size = w5.heap.size := World.size_setCell _ _ _
  clear hD5 hb5 hf5 CS hg HX4 HX5 HRA4 HRB4 HN4 HRA5 HRB5 HN5 HB4 HB5
  go_upto_region 7 with fail
  clear n1 nf
  generalize w5.setCell ⟨NB, 1, none⟩ (.int .i64 G) = W6 at *
  have hlen : (chgN (sacF ack x zs) ns2).length ≤ 1048576 := by have h := congrArg List.length HLE.out; rw [List.length_map] at h; rw [h]; exact HLL.out
  have CB := hide (board_walk _ L ack x (chgN (sacF ack x zs) ns2) W6.drew HD6.out.drew hlen)
  rw [HLE.out] at CB
  obtain ⟨ln, hln⟩ : ∃ ln, ln = (ackL ack x zs os).length := ⟨_, rfl⟩
  have HLEN := hide hln
  clear hln hlen
  have m0 := HN6.out.cell 0 _ rfl; have m1 := HN6.out.cell 1 _ rfl; have m2 := HN6.out.cell 2 _ rfl
  have hne1 : NB ≠ w.heap.size + 1 := by omega
  have hne2 : NB ≠ w.heap.size + 2 := by omega
  have hRl := HRB6.out.lt
  go_region_with (go_at_call 30; go_loud (refine CB.out.mono ?_; rintro e w7 ⟨v, rfl, hO, hw7⟩; obtain ⟨bz, nz, hv, _⟩ := arrP_own hO; rw [← HLEN.out] at hv; subst hv; have HR7 := hide (HRA6.out.next (below_drew hw7)); have HQ7 := hide (HRB6.out.next (below_drew hw7)); have HN7 := hide (HN6.out.next (below_drew hw7)); have d0 := HN7.out.cell 0 _ rfl; have d1 := HN7.out.cell 1 _ rfl; have d2 := HN7.out.cell 2 _ rfl; have r0 := HR7.out.cell 0 _ rfl; have r1 := HR7.out.cell 1 _ rfl; have r2 := HR7.out.cell 2 _ rfl; have rf := HR7.out.frozen; have q0 := HQ7.out.cell 0 _ rfl; have q1 := HQ7.out.cell 1 _ rfl; have q2 := HQ7.out.cell 2 _ rfl; have qf := HQ7.out.frozen))
  all_goals
    have HO7 := hide (ownP_mono hO (C := w.heap.size + 3) (by show w.heap.size + 3 ≤ W6.heap.size; omega))
    have HB7 : Hid (Below w.heap.size w w7) := hide (HB6.out.trans ((below_drew hw7).mono HB6.out.size))
    clear hO hw7
    go_wp2_with fail
    exact bodyPost_ret (v := .tuple #[.agg #[.int .i64 ack, .int .i64 x, .slice bz ln nz], .agg #[.int .i64 (ack - u), .int .i64 G, .int .i64 S], .int .i64 0]) (by simp [results, Try.results16, go_sem, r0, r1, r2, q0, q1, q2]) rfl ⟨_, rfl, ownP_mono (ownP_gr (ownP_gr HO7.out (gr_set (gr_set (gr_set (grown_reflp _ _) 0 _) 1 _) 2 _) (by omega)) (g := w.heap.size + 2) (gr_set (gr_set (gr_set (grown_reflp _ _) 0 _) 1 _) 2 _) (by omega)) (by omega), below_gr (below_gr HB7.out (gr_set (gr_set (gr_set (grown_reflp _ _) 0 _) 1 _) 2 _) HB7.out.size (Nat.le_succ _)) (Y := w.heap.size + 2) (gr_set (gr_set (gr_set (grown_reflp _ _) 0 _) 1 _) 2 _) (by simp; exact HB7.out.size) (by omega)⟩
end Go.Proofs.Ytddkcgngpclgfab
