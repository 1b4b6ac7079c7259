/-
Contracts of functions of this seat.
-/
import Derived.Test.YtddkcgngpclgfabRows
import Derived.WalkKit
import Derived.ProofKit
import Derived.OpenShut
import Derived.Test.YtddkcgngpclgfabBk0
import Derived.Test.YtddkcgngpclgfabL1BoardAck
import Derived.Deep.AppendLies
namespace Go.Proofs.Ytddkcgngpclgfab
open Go.ChangeShapes Go.WideShapes Go.ChangeAt Go.RowKit
set_option linter.unusedVariables false
set_option maxRecDepth 100000
theorem row_mono {W : World} {BB C n : Nat} {v : Value} {os : List PieceM} (h : RowP W BB v n os) (hC : C ≤ BB) : RowP W C v n os := by
  refine ⟨h.1, ?_⟩
  rcases h.2 with h0 | ⟨g, cap, cur, hv, hB, hrest⟩
  · exact .inl h0
  · exact .inr ⟨g, cap, cur, hv, by omega, hrest⟩
theorem pc_cells {W : World} {b : Nat} {q : PieceM} (hb : HoldV W b #[.int .i64 q.f0, .int .i64 q.f1, .int .i64 q.f2, .int .i64 q.f3, .bool q.f4, .bool q.f5] 30) : ∀ j u, (valPiece q)[j]? = some u → W.cell? ((⟨b, 0, none⟩ : Addr).add j) = some u := by
  intro j u hj
  have hj6 : j < 6 := (List.getElem?_eq_some_iff.1 hj).1
  rcases (show j = 0 ∨ j = 1 ∨ j = 2 ∨ j = 3 ∨ j = 4 ∨ j = 5 by omega) with rfl | rfl | rfl | rfl | rfl | rfl <;> (injection hj with hj; subst hj)
  · exact hb.cell 0 _ rfl
  · exact hb.cell 1 _ rfl
  · exact hb.cell 2 _ rfl
  · exact hb.cell 3 _ rfl
  · exact hb.cell 4 _ rfl
  · exact hb.cell 5 _ rfl
theorem val_one1 (q : PieceM) : ∀ u ∈ valPiece q, u.oneCell' = true := by intro u hu; simp [valPiece] at hu; rcases hu with rfl | rfl | rfl | rfl | rfl | rfl <;> rfl

/-- Is a piece told to be there anew? -/
def nwB (ack x : Int) (zs : List Int) (p : PieceM) : Bool := !p.f4 && wiB ack x (max p.f0 ack) p.f1 zs
/-- A piece behind an acknowledgement. -/
def ackF (ack x : Int) (zs : List Int) (p : PieceM) : PieceM := if nwB ack x zs p = true then ⟨max p.f0 ack, p.f1, p.f2, p.f3, true, false⟩ else ⟨max p.f0 ack, p.f1, p.f2, p.f3, p.f4, p.f5⟩
def ackL (ack x : Int) (zs : List Int) (os : List PieceM) : List PieceM := (os.filter (fun p => decide (ack < p.f1))).map (ackF ack x zs)
/-- The time of the last piece that measures, of those that are acknowledged. -/
def ackS (ack : Int) (os : List PieceM) : Int := os.foldl (fun s p => if p.f1 ≤ ack ∧ p.f3 = 1 ∧ p.f4 = false then p.f2 else s) (-1)
/-- How many bytes are told to be there anew. -/
def ackG (ack x : Int) (zs : List Int) : List PieceM → Int
  | [] => 0
  | p :: r => (if ack < p.f1 ∧ nwB ack x zs p = true then p.f1 - max p.f0 ack else 0) + ackG ack x zs r
theorem ackL_app (ack x : Int) (zs : List Int) (a b : List PieceM) : ackL ack x zs (a ++ b) = ackL ack x zs a ++ ackL ack x zs b := by unfold ackL; rw [List.filter_append, List.map_append]
theorem ackL_len (ack x : Int) (zs : List Int) (a : List PieceM) : (ackL ack x zs a).length ≤ a.length := by unfold ackL; rw [List.length_map]; exact List.length_filter_le _ _
theorem ackG_app (ack x : Int) (zs : List Int) : ∀ (a b : List PieceM), ackG ack x zs (a ++ b) = ackG ack x zs a + ackG ack x zs b
  | [], b => by simp [ackG]
  | o :: a, b => by show _ + ackG ack x zs (a ++ b) = _ + ackG ack x zs a + ackG ack x zs b; rw [ackG_app ack x zs a b]; omega
theorem ackG_le (ack x : Int) (zs : List Int) : ∀ (os : List PieceM) (u m : Int), chk u os = some m → 0 ≤ ackG ack x zs os ∧ ackG ack x zs os ≤ m - u
  | [], u, m, h => by cases h; simp [ackG]
  | o :: a, u, m, h => by
    by_cases hh : o.f0 = u ∧ vp o
    · rw [chk_cons hh.1 hh.2] at h
      have h1 := ackG_le ack x zs a _ _ h
      have h2 := hh.2.1
      have h3 := hh.1
      show 0 ≤ (if ack < o.f1 ∧ nwB ack x zs o = true then o.f1 - max o.f0 ack else 0) + ackG ack x zs a ∧ (if ack < o.f1 ∧ nwB ack x zs o = true then o.f1 - max o.f0 ack else 0) + ackG ack x zs a ≤ m - u
      by_cases hc : ack < o.f1 ∧ nwB ack x zs o = true
      · rw [if_pos hc]; have := hc.1; omega
      · rw [if_neg hc]; omega
    · rw [chk_ill hh] at h; cases h
theorem ack_gone {ack x : Int} {zs : List Int} {p : PieceM} (h : p.f1 ≤ ack) : ackL ack x zs [p] = [] ∧ ackG ack x zs [p] = 0 := by
  have h2 : ¬ ack < p.f1 := Int.not_lt.2 h
  refine ⟨by simp [ackL, h2], by simp [ackG, h2]⟩
theorem ack_keep {ack x : Int} {zs : List Int} {p : PieceM} (h : ¬ p.f1 ≤ ack) : ackL ack x zs [p] = [ackF ack x zs p] := by
  have h2 : ack < p.f1 := Int.not_le.1 h
  simp [ackL, h2]
theorem ackS_snoc (ack : Int) (a : List PieceM) (p : PieceM) : ackS ack (a ++ [p]) = if p.f1 ≤ ack ∧ p.f3 = 1 ∧ p.f4 = false then p.f2 else ackS ack a := by unfold ackS; rw [List.foldl_append]; rfl
theorem row_gr2 {W W' : World} {BB n g : Nat} {v : Value} {os : List PieceM} (h : RowP W BB v n os) (hg : W.grownBy W' (some g)) (hne : ∀ b, v.ownBlock = some b → b ≠ g) : RowP W' BB v n os := by
  refine ⟨h.1, ?_⟩
  rcases h.2 with h0 | ⟨r, cap, cur, hv, hB, hr, hrest⟩
  · exact .inl h0
  · exact .inr ⟨r, cap, cur, hv, hB, (hg.block r (Array.getElem?_eq_some_iff.1 hr).1 (fun e => by cases e; exact hne g (by rw [hv]; rfl) rfl)).trans hr, hrest⟩
theorem three_boxes (w : World) (o1 o2 o3 : Array Value) (t1 t2 t3 : Nat) : Below w.heap.size w (((w.alloc (.cells o1 t1)).alloc (.cells o2 t2)).alloc (.cells o3 t3)) ∧ HoldV (((w.alloc (.cells o1 t1)).alloc (.cells o2 t2)).alloc (.cells o3 t3)) w.heap.size o1 t1 ∧ HoldV (((w.alloc (.cells o1 t1)).alloc (.cells o2 t2)).alloc (.cells o3 t3)) (w.heap.size + 1) o2 t2 ∧ HoldV (((w.alloc (.cells o1 t1)).alloc (.cells o2 t2)).alloc (.cells o3 t3)) (w.heap.size + 2) o3 t3 := by
  obtain ⟨h1, h2, h3⟩ := two_boxes w o1 o2 t1 t2
  have hs : ((w.alloc (.cells o1 t1)).alloc (.cells o2 t2)).heap.size = w.heap.size + 2 := by simp
  refine ⟨h1.alloc h1.size _, hv_alloc h2 _, hv_alloc h3 _, ?_⟩
  have h := hv_new ((w.alloc (.cells o1 t1)).alloc (.cells o2 t2)) o3 t3
  rw [hs] at h
  exact h

set_option maxHeartbeats 24000000 in
theorem specAck_yes {u x : Int} {os : List PieceM} (ack : Int) (zs : List Int) (hok : bOK u x os) (hs : u ≤ ack ∧ ack ≤ x) (hz : zs.length ≤ 6) : BoardAckP 14 (fun _ => True) u x os ack zs ack x (ackL ack x zs os) (ack - u) (ackG ack x zs os) (ackS ack os) 0 := by
  intro a n cap aq nq cq w hn ha hc hm hn2 ha2 hc2 hm2 _
  obtain ⟨hb3, hX, hRA, hRB⟩ := three_boxes w #[.int .i64 u, .int .i64 x, .slice a n cap] #[.int .i64 0, .int .i64 0, .slice none 0 0] #[.int .i64 0, .int .i64 0, .int .i64 0] 28 28 41
  have HB2 := hide hb3; have HX := hide hX; have HRA := hide hRA; have HRB := hide hRB
  have k0 := hX.cell 0 _ rfl; have k1 := hX.cell 1 _ rfl; have k2 := hX.cell 2 _ rfl
  have CV := hide (l15OK_walk u x a n cap os (((w.alloc (.cells #[.int .i64 u, .int .i64 x, .slice a n cap] 28)).alloc (.cells #[.int .i64 0, .int .i64 0, .slice none 0 0] 28)).alloc (.cells #[.int .i64 0, .int .i64 0, .int .i64 0] 41)) hn (ha.below hb3 (Nat.le_refl _)) hm)
  rw [bokB_yes hok] at CV
  have HOK := hide hok
  have HN := hide hn
  have HA0 := hide ha
  have HZ0 := hide ha2
  have HNZ := hide hn2
  have HMZ := hide hm2
  have h1 : inB ack u x = true := inB_iff.2 hs
  obtain ⟨kk1, kk2⟩ := hs
  have hu0 : 0 ≤ u := hok.1
  have hx0 : x ≤ 1099511627776 := hok.2.1
  have hn4 : n ≤ 4096 := by rw [← hn]; exact hok.2.2.1
  have hnq : (nq : Int) ≤ 3 := by omega
  have hwu : IntKind.i64.wrap (ack - u) = ack - u := by rw [IntKind.wrap_i64]; omega
  have HSB : Hid (∀ i, 0 ≤ ackG ack x zs (os.take i) ∧ ackG ack x zs (os.take i) ≤ 1099511627776) := hide (fun i => by
    have h := hok
    rw [← List.take_append_drop i os] at h
    obtain ⟨m, h1, h2⟩ := chk_app _ _ _ _ h.2.2.2
    have h3 := ackG_le ack x zs _ _ _ h1
    have h4 := chk_le _ _ _ h2
    have := h.1; have := h.2.1
    omega)
  obtain ⟨ip, hi, hz0, hz1, hz2⟩ := info_parts Try.infoPiece
  have HI := hide hi; have HI0 := hide hz0; have HI1 := hide hz1; have HI2 := hide hz2
  clear hi hz0 hz1 hz2
  clear hn ha ha2 hn2 hm2 hok hb3 hX hRA hRB hz
  go_enter Try.func14, Try.ntmps14
  go_wp2_with fail
  refine CV.out.mono ?_
  rintro e w1 ⟨rfl, hw1⟩
  have HX1 := hide (HX.out.next hw1); have HRA1 := hide (HRA.out.next hw1); have HRB1 := hide (HRB.out.next hw1)
  have HB1 : Hid (Below w.heap.size w w1) := hide (HB2.out.trans (hw1.mono HB2.out.size))
  have hV1 : w.heap.size + 2 < w1.heap.size := HRB1.out.lt
  clear hw1 CV k0 k1 k2 HB2 HX HRA HRB
  have k0 := HX1.out.cell 0 _ rfl; have k1 := HX1.out.cell 1 _ rfl; have k2 := HX1.out.cell 2 _ rfl
  go_upto_region 3 with (go_at_call 22; refine (In_walk _ _ _ _).mono ?_; rintro e w9 ⟨rfl, hq⟩; rw [hq]; clear hq)
  obtain ⟨hb2, hN, hO⟩ := two_boxes w1 #[.int .i64 (ack - u), .int .i64 0, .int .i64 (-1)] #[.int .i64 ack, .int .i64 x, .slice none 0 0] 41 28
  have HX2 := hide (HX1.out.next hb2); have HRA2 := hide (HRA1.out.next hb2); have HRB2 := hide (HRB1.out.next hb2); have HB2 : Hid (Below w.heap.size w _) := hide (HB1.out.trans (hb2.mono HB1.out.size))
  have HN2 := hide hN; have HO2 := hide hO
  have kx := hv_alloc HX1.out (.cells #[.int .i64 (ack - u), .int .i64 0, .int .i64 (-1)] 41)
  have kx1 := kx.cell 1 _ rfl
  clear hb2 hN hO kx HX1 HRA1 HRB1 HB1
  go_upto_region 5 with fail
  clear k0 k1 k2 kx1
  generalize (w1.alloc (.cells #[.int .i64 (ack - u), .int .i64 0, .int .i64 (-1)] 41)).alloc (.cells #[.int .i64 ack, .int .i64 x, .slice none 0 0] 28) = V2 at *
  obtain ⟨O, hOe⟩ : ∃ O, O = w1.heap.size + 1 := ⟨_, rfl⟩
  obtain ⟨NB, hNe⟩ : ∃ NB, NB = w1.heap.size := ⟨_, rfl⟩
  rw [← hOe] at HO2; rw [← hNe] at HN2
  simp only [← hNe]
  have hOe2 : NB + 1 = O := by omega
  simp only [hOe2]
  have hNO : NB < O := by omega
  have hVN : w.heap.size + 2 < NB := by omega
  clear hOe hNe hOe2 hV1
  go_wp2_with fail
  go_loopw [11] (fun t w2 => ∃ (i m : Nat) (v : Value), i ≤ n ∧ t = .int .i64 i ∧ Hid (RowP w2 (O + 1) v m (ackL ack x zs (os.take i))) ∧ Hid ((ackL ack x zs (os.take i)).length = m) ∧ Hid (HoldV w2 w.heap.size #[.int .i64 u, .int .i64 x, .slice a n cap] 28) ∧ Hid (HoldV w2 (w.heap.size + 1) #[.int .i64 0, .int .i64 0, .slice none 0 0] 28) ∧ Hid (HoldV w2 (w.heap.size + 2) #[.int .i64 0, .int .i64 0, .int .i64 0] 41) ∧ Hid (HoldV w2 NB #[.int .i64 (ack - u), .int .i64 (ackG ack x zs (os.take i)), .int .i64 (ackS ack (os.take i))] 41) ∧ Hid (HoldV w2 O #[.int .i64 ack, .int .i64 x, v] 28) ∧ Hid (Below w.heap.size w w2)) (fun t _ => n - (intOf t).toNat)
  case atStart => exact ⟨0, 0, .slice none 0 0, Nat.zero_le _, rfl, hide ⟨rfl, .inl ⟨rfl, rfl⟩⟩, hide rfl, HX2, HRA2, HRB2, HN2, HO2, HB2⟩
  case round =>
    rename World => wk
    obtain ⟨i, m, v, hi, rfl, HV, HM, HX, HRA, HRB, HNB, HO, HB⟩ := hrel
    obtain ⟨bz, nz, rfl⟩ := HV.out.form
    have k2 := HX.out.cell 2 _ rfl
    by_cases hlt : i < n
    · have hio : i < os.length := by rw [HN.out]; exact hlt
      have HNA : Hid (ArrP wk a (os.flatMap valPiece)) := hide (HA0.out.below HB.out (Nat.le_refl _))
      obtain ⟨b, off, hab, hbs, c0, c1, c2, c3, c4, c5⟩ := piece_cells HNA.out hio
      subst hab
      obtain ⟨q0, q1, q2⟩ : 0 ≤ os[i].f0 ∧ os[i].f0 < os[i].f1 ∧ os[i].f1 ≤ 1099511627776 := bOK_piece HOK.out (List.getElem_mem hio)
      have HTS : Hid (ackS ack (os.take (i + 1)) = if os[i].f1 ≤ ack ∧ os[i].f3 = 1 ∧ os[i].f4 = false then os[i].f2 else ackS ack (os.take i)) := hide (by rw [take_snoc hio, ackS_snoc])
      have HTG : Hid (ackG ack x zs (os.take (i + 1)) = ackG ack x zs (os.take i) + ackG ack x zs [os[i]]) := hide (by rw [take_snoc hio, ackG_app])
      have HTL : Hid (ackL ack x zs (os.take (i + 1)) = ackL ack x zs (os.take i) ++ ackL ack x zs [os[i]]) := hide (by rw [take_snoc hio, ackL_app])
      have hmi : m ≤ 4096 := by
        have h1 := HM.out
        have h2 := ackL_len ack x zs (os.take i)
        have h3 : (os.take i).length ≤ i := by rw [List.length_take]; omega
        omega
      obtain ⟨s0, s1⟩ := HSB.out i
      generalize os[i] = qq at *
      generalize ackG ack x zs (os.take i) = g at *
      generalize ackS ack (os.take i) = sv at *
      obtain ⟨x0, x1, x2, x3, x4, x5⟩ := qq
      try dsimp only at c0 c1 c2 c3 c4 c5 q0 q1 q2
      have hal := (Below.refl wk.heap.size wk).alloc (Nat.le_refl _) (.cells #[.int .i64 x0, .int .i64 x1, .int .i64 x2, .int .i64 x3, .bool x4, .bool x5] 30)
      have HPB : Hid (HoldV (wk.alloc (.cells #[.int .i64 x0, .int .i64 x1, .int .i64 x2, .int .i64 x3, .bool x4, .bool x5] 30)) wk.heap.size _ 30) := hide (hv_new wk #[.int .i64 x0, .int .i64 x1, .int .i64 x2, .int .i64 x3, .bool x4, .bool x5] 30)
      have hOk : O < wk.heap.size := HO.out.lt
      have HV2 := hide (HV.out.next hal); have HX2' := hide (HX.out.next hal); have HRA2' := hide (HRA.out.next hal); have HRB2' := hide (HRB.out.next hal); have HN2' := hide (HNB.out.next hal); have HO2' := hide (HO.out.next hal); have HB2' : Hid (Below w.heap.size w _) := hide (HB.out.trans (hal.mono HB.out.size))
      have HOB : Hid (∀ b, (Value.slice bz m nz).ownBlock = some b → b < wk.heap.size) := hide (fun b hb => (ownsAt.lt (ownsAt.of_row HV.out) b hb).2)
      have kk2' := HX2'.out.cell 2 _ rfl
      clear hal HV HX HRA HRB HNB HO HB
      go_upto_region 9 with fail
      clear c0 c1 c2 c3 c4 c5 k2 kk2'
      generalize wk.alloc (.cells #[.int .i64 x0, .int .i64 x1, .int .i64 x2, .int .i64 x3, .bool x4, .bool x5] 30) = V3 at *
      obtain ⟨PB, hPB⟩ : ∃ PB, PB = wk.heap.size := ⟨_, rfl⟩
      rw [← hPB] at HPB HOB hOk
      simp only [← hPB]
      clear hPB
      have r0 := HPB.out.cell 0 _ rfl; have r1 := HPB.out.cell 1 _ rfl; have r2 := HPB.out.cell 2 _ rfl; have r3 := HPB.out.cell 3 _ rfl; have r4 := HPB.out.cell 4 _ rfl; have r5 := HPB.out.cell 5 _ rfl; have pf := HPB.out.frozen
      by_cases hd : x1 ≤ ack
      · have HK : Hid (ackL ack x zs (os.take (i + 1)) = ackL ack x zs (os.take i)) := hide (by rw [HTL.out, (ack_gone (p := ⟨x0, x1, x2, x3, x4, x5⟩) hd).1, List.append_nil])
        have HG : Hid (ackG ack x zs (os.take (i + 1)) = g) := hide (by rw [HTG.out, (ack_gone (p := ⟨x0, x1, x2, x3, x4, x5⟩) hd).2, Int.add_zero])
        clear HTL HTG
        by_cases h3 : x3 = 1
        · cases x4 with
          | false =>
            have HS2 : Hid (ackS ack (os.take (i + 1)) = x2) := hide (by rw [HTS.out, if_pos ⟨hd, h3, rfl⟩])
            clear HTS
            have n2 := HN2'.out.cell 2 _ rfl; have nf := HN2'.out.frozen
            have hg : V3.grownBy (V3.setCell ⟨NB, 2, none⟩ (.int .i64 x2)) (some NB) := gr_set (grown_reflp _ _) 2 _
            have hNP : NB ≠ O := by omega
            have HX6 := hide (hv_gr HX2'.out hg (by omega)); have HRA6 := hide (hv_gr HRA2'.out hg (by omega)); have HRB6 := hide (hv_gr HRB2'.out hg (by omega)); have HO6 := hide (hv_gr HO2'.out hg (by omega))
            have HN6 := hide (hv_set HN2'.out 2 (.int .i64 x2))
            have HV6 := hide (row_gr HV2.out hg (by omega))
            have HB6 := hide (below_gr HB2'.out hg HB2'.out.size (by omega))
            clear hg HN2' HX2' HRA2' HRB2' HO2' HV2 HB2'
            have h3b : (x3 == 1) = true := by rw [h3]; rfl
            go_wp2_with fail
            exact ⟨⟨i + 1, m, _, by omega, by go_num, hide (by rw [HK.out]; exact HV6.out), hide (by rw [HK.out]; exact HM.out), HX6, HRA6, HRB6, hide (by rw [HG.out, HS2.out]; exact HN6.out), HO6, HB6⟩, by simp [intOf]; omega⟩
          | true =>
            have HS2 : Hid (ackS ack (os.take (i + 1)) = sv) := hide (by rw [HTS.out, if_neg (by simp)])
            clear HTS
            have h3b : (x3 == 1) = true := by rw [h3]; rfl
            go_wp2_with fail
            exact ⟨⟨i + 1, m, _, by omega, by go_num, hide (by rw [HK.out]; exact HV2.out), hide (by rw [HK.out]; exact HM.out), HX2', HRA2', HRB2', hide (by rw [HG.out, HS2.out]; exact HN2'.out), HO2', HB2'⟩, by simp [intOf]; omega⟩
        · have HS2 : Hid (ackS ack (os.take (i + 1)) = sv) := hide (by rw [HTS.out, if_neg (fun h => h3 h.2.1)])
          clear HTS
          have h3b : (x3 == 1) = false := beq_eq_false_iff_ne.2 h3
          go_wp2_with fail
          exact ⟨⟨i + 1, m, _, by omega, by go_num, hide (by rw [HK.out]; exact HV2.out), hide (by rw [HK.out]; exact HM.out), HX2', HRA2', HRB2', hide (by rw [HG.out, HS2.out]; exact HN2'.out), HO2', HB2'⟩, by simp [intOf]; omega⟩
      · have HK : Hid (ackL ack x zs (os.take (i + 1)) = ackL ack x zs (os.take i) ++ [ackF ack x zs ⟨x0, x1, x2, x3, x4, x5⟩]) := hide (by rw [HTL.out, ack_keep (p := ⟨x0, x1, x2, x3, x4, x5⟩) hd])
        have HS2 : Hid (ackS ack (os.take (i + 1)) = sv) := hide (by rw [HTS.out, if_neg (fun h => hd h.1)])
        clear HTL HTS
        obtain ⟨y0, hy0⟩ : ∃ y0, y0 = max x0 ack := ⟨_, rfl⟩
        have HY := hide hy0
        have hy1 : 0 ≤ y0 := by omega
        have hy2 : y0 < x1 := by omega
        clear hy0
        go_upto_region 12 with fail
        go_upto_region 13 with (go_at_call 34; refine (l14Max_walk _ _ _).mono ?_; rintro e w9 ⟨rfl, hq⟩; rw [hq, ← HY.out]; clear hq)
        have hg : V3.grownBy (V3.setCell ⟨PB, 0, none⟩ (.int .i64 y0)) (some PB) := gr_set (grown_reflp _ _) 0 _
        have HX3 := hide (hv_gr HX2'.out hg (by omega)); have HRA3 := hide (hv_gr HRA2'.out hg (by omega)); have HRB3 := hide (hv_gr HRB2'.out hg (by omega)); have HN3 := hide (hv_gr HN2'.out hg (by omega)); have HO3 := hide (hv_gr HO2'.out hg (by omega))
        have HP3 : Hid (HoldV (V3.setCell ⟨PB, 0, none⟩ (.int .i64 y0)) PB #[.int .i64 y0, .int .i64 x1, .int .i64 x2, .int .i64 x3, .bool x4, .bool x5] 30) := hide (hv_set HPB.out 0 (.int .i64 y0))
        have HV3 : Hid (RowP (V3.setCell ⟨PB, 0, none⟩ (.int .i64 y0)) (O + 1) (.slice bz m nz) m (ackL ack x zs (os.take i))) := hide (row_gr2 HV2.out hg (fun b hb e => by have := HOB.out b hb; omega))
        have HB3 := hide (below_gr HB2'.out hg HB2'.out.size (by have := HB2'.out.size; omega))
        clear hg HV2 HX2' HRA2' HRB2' HN2' HO2' HPB HB2' r0 r1 r2 r3 r4 r5 pf
        generalize V3.setCell ⟨PB, 0, none⟩ (.int .i64 y0) = W4 at *
        cases x4 with
        | true =>
          have HNW : nwB ack x zs ⟨x0, x1, x2, x3, true, x5⟩ = false := rfl
          have HF : Hid (ackF ack x zs ⟨x0, x1, x2, x3, true, x5⟩ = ⟨y0, x1, x2, x3, true, x5⟩) := hide ((if_neg (fun h => by rw [HNW] at h; cases h)).trans (by rw [HY.out]))
          have HG : Hid (ackG ack x zs (os.take (i + 1)) = g) := hide (by
            have h1 : ackG ack x zs [⟨x0, x1, x2, x3, true, x5⟩] = 0 := by
              show (if ack < x1 ∧ nwB ack x zs ⟨x0, x1, x2, x3, true, x5⟩ = true then x1 - max x0 ack else 0) + 0 = _
              rw [if_neg (fun h => by rw [HNW] at h; cases h.2)]
              rfl
            rw [HTG.out, h1, Int.add_zero])
          clear HTG HNW
          have r4 := HP3.out.cell 4 _ rfl
          go_upto_region 17 with fail
          clear r4
          have r0 := HP3.out.cell 0 (.int .i64 y0) rfl; have r1 := HP3.out.cell 1 (.int .i64 x1) rfl; have r2 := HP3.out.cell 2 (.int .i64 x2) rfl; have r3 := HP3.out.cell 3 (.int .i64 x3) rfl; have r4 := HP3.out.cell 4 (.bool true) rfl; have r5 := HP3.out.cell 5 (.bool x5) rfl
          have o2 := HO3.out.cell 2 _ rfl; have of := HO3.out.frozen
          have hOj : O < W4.heap.size := HO3.out.lt
          have hal := (Below.refl W4.heap.size W4).alloc (Nat.le_refl _) (.cells #[.int .i64 y0, .int .i64 x1, .int .i64 x2, .int .i64 x3, .bool true, .bool x5] 30)
          have HPL : Hid (HoldV (W4.alloc (.cells #[.int .i64 y0, .int .i64 x1, .int .i64 x2, .int .i64 x3, .bool true, .bool x5] 30)) W4.heap.size _ 30) := hide (hv_new W4 #[.int .i64 y0, .int .i64 x1, .int .i64 x2, .int .i64 x3, .bool true, .bool x5] 30)
          have HV4 := hide (HV3.out.next hal); have HX4 := hide (HX3.out.next hal); have HRA4 := hide (HRA3.out.next hal); have HRB4 := hide (HRB3.out.next hal); have HN4 := hide (HN3.out.next hal); have HO4 := hide (HO3.out.next hal); have HB4 : Hid (Below w.heap.size w _) := hide (HB3.out.trans (hal.mono HB3.out.size))
          have o2' := HO4.out.cell 2 _ rfl; have of' := HO4.out.frozen
          have hsa : (W4.alloc (.cells #[.int .i64 y0, .int .i64 x1, .int .i64 x2, .int .i64 x3, .bool true, .bool x5] 30)).heap.size = W4.heap.size + 1 := World.size_alloc _ _
          clear hal HV3 HX3 HRA3 HRB3 HN3 HO3 HP3 HB3
          go_wp2_with (at_builtin; refine wpList_append_lies _ rfl _ _ 26 rfl (O + 1) 30 ip _ 6 40 Try.underlying26 HI.out HI0.out HI1.out HI2.out rfl (by decide) (.slice bz m nz) m ((ackL ack x zs (os.take i)).flatMap valPiece) rfl HV4.out ⟨W4.heap.size, 0, none⟩ 1 1 (valPiece ⟨y0, x1, x2, x3, true, x5⟩) rfl rfl (pc_cells HPL.out) (val_one1 _) (by omega) (by unfold maxLen; omega) (by omega) (by omega) _ rfl ?_)
          intro gt nt w3 hown' hgrow hlies _
          have HO5 : Hid (RowP w3 (O + 1) (.slice (some ⟨gt, 0, none⟩) (m + 1) nt) (m + 1) (ackL ack x zs (os.take (i + 1)))) := hide (by rw [HK.out, HF.out]; unfold RowP; rw [List.flatMap_append]; simpa using hown')
          have HM5 : Hid ((ackL ack x zs (os.take (i + 1))).length = m + 1) := hide (by rw [HK.out, List.length_append, HM.out]; rfl)
          have hkeep : ∀ b, b ≤ O → w3.heap[b]? = (W4.alloc (.cells #[.int .i64 y0, .int .i64 x1, .int .i64 x2, .int .i64 x3, .bool true, .bool x5] 30)).heap[b]? := fun b hb => hgrow.block b (by omega) (fun e => by
            have h1 := ownsAt.lt (ownsAt.of_row HV4.out) b e.symm
            omega)
          have HX5 : Hid (HoldV w3 w.heap.size _ 28) := hide ((hkeep _ (by omega)).trans HX4.out)
          have HRA5 : Hid (HoldV w3 (w.heap.size + 1) _ 28) := hide ((hkeep _ (by omega)).trans HRA4.out)
          have HRB5 : Hid (HoldV w3 (w.heap.size + 2) _ 41) := hide ((hkeep _ (by omega)).trans HRB4.out)
          have HN5 : Hid (HoldV w3 NB _ 41) := hide ((hkeep _ (by omega)).trans HN4.out)
          have HOO5 : Hid (HoldV w3 O _ 28) := hide ((hkeep _ (Nat.le_refl _)).trans HO4.out)
          have HB5 : Hid (Below w.heap.size w w3) := hide (HB4.out.trans ⟨hgrow.os, hgrow.tape, hgrow.output, hgrow.size, fun b hb => hkeep b (by omega)⟩)
          have hg6 : w3.grownBy (w3.setCell ⟨O, 2, none⟩ (.slice (some ⟨gt, 0, none⟩) (m + 1) nt)) (some O) := gr_set (grown_reflp _ _) 2 _
          have HX6 := hide (hv_gr HX5.out hg6 (by omega)); have HRA6 := hide (hv_gr HRA5.out hg6 (by omega)); have HRB6 := hide (hv_gr HRB5.out hg6 (by omega)); have HN6 := hide (hv_gr HN5.out hg6 (by omega))
          have HO6 := hide (hv_set HOO5.out 2 (.slice (some ⟨gt, 0, none⟩) (m + 1) nt))
          have HV6 := hide (row_gr HO5.out hg6 (by omega))
          have HB6 := hide (below_gr HB5.out hg6 HB5.out.size (by omega))
          have o3 := HOO5.out.cell 2 _ rfl; have o3f := HOO5.out.frozen
          clear hkeep hgrow hown' hlies hg6 HO5 HX5 HRA5 HRB5 HN5 HOO5 HB5 HV4 HX4 HRA4 HRB4 HN4 HO4 HB4 HPL hsa o2 o2' of of' r0 r1 r2 r3 r4 r5
          go_wp2_with fail
          exact ⟨⟨i + 1, m + 1, _, by omega, by go_num, HV6, HM5, HX6, HRA6, HRB6, hide (by rw [HG.out, HS2.out]; exact HN6.out), HO6, HB6⟩, by simp [intOf]; omega⟩
        | false =>
          have CW := hide (l15Within_walk y0 x1 x2 x3 false x5 ack x bz m nz aq nq cq zs W4 HNZ.out (HZ0.out.below HB3.out (Nat.le_refl _)) HMZ.out)
          have r0 := HP3.out.cell 0 _ rfl; have r1 := HP3.out.cell 1 _ rfl; have r2 := HP3.out.cell 2 _ rfl; have r3 := HP3.out.cell 3 _ rfl; have r4 := HP3.out.cell 4 _ rfl; have r5 := HP3.out.cell 5 _ rfl
          have o0 := HO3.out.cell 0 _ rfl; have o1 := HO3.out.cell 1 _ rfl; have o2 := HO3.out.cell 2 _ rfl
          go_wp2_with fail
          refine CW.out.mono ?_
          rintro e wj ⟨rfl, hw⟩
          clear CW r0 r1 r2 r3 r4 r5 o0 o1 o2
          have HX3' := hide (HX3.out.next hw); have HRA3' := hide (HRA3.out.next hw); have HRB3' := hide (HRB3.out.next hw); have HN3' := hide (HN3.out.next hw); have HO3' := hide (HO3.out.next hw); have HP3' := hide (HP3.out.next hw); have HV3' := hide (HV3.out.next hw); have HB3' : Hid (Below w.heap.size w wj) := hide (HB3.out.trans (hw.mono HB3.out.size))
          clear hw HX3 HRA3 HRB3 HN3 HO3 HP3 HV3 HB3
          cases hwi : wiB ack x y0 x1 zs with
          | false =>
            have HNW : nwB ack x zs ⟨x0, x1, x2, x3, false, x5⟩ = false := by show (!false && wiB ack x (max x0 ack) x1 zs) = false; rw [← HY.out, hwi]; rfl
            have HF : Hid (ackF ack x zs ⟨x0, x1, x2, x3, false, x5⟩ = ⟨y0, x1, x2, x3, false, x5⟩) := hide ((if_neg (fun h => by rw [HNW] at h; cases h)).trans (by rw [HY.out]))
            have HG : Hid (ackG ack x zs (os.take (i + 1)) = g) := hide (by
              have h1 : ackG ack x zs [⟨x0, x1, x2, x3, false, x5⟩] = 0 := by
                show (if ack < x1 ∧ nwB ack x zs ⟨x0, x1, x2, x3, false, x5⟩ = true then x1 - max x0 ack else 0) + 0 = _
                rw [if_neg (fun h => by rw [HNW] at h; cases h.2)]
                rfl
              rw [HTG.out, h1, Int.add_zero])
            clear HTG HNW
            clear hwi
            have HX3 := HX3'; have HRA3 := HRA3'; have HRB3 := HRB3'; have HN3 := HN3'; have HO3 := HO3'; have HP3 := HP3'; have HV3 := HV3'; have HB3 := HB3'
            clear HX3' HRA3' HRB3' HN3' HO3' HP3' HV3' HB3'
            go_upto_region 17 with fail
            have r0 := HP3.out.cell 0 (.int .i64 y0) rfl; have r1 := HP3.out.cell 1 (.int .i64 x1) rfl; have r2 := HP3.out.cell 2 (.int .i64 x2) rfl; have r3 := HP3.out.cell 3 (.int .i64 x3) rfl; have r4 := HP3.out.cell 4 (.bool false) rfl; have r5 := HP3.out.cell 5 (.bool x5) rfl
            have o2 := HO3.out.cell 2 _ rfl; have of := HO3.out.frozen
            have hOj : O < wj.heap.size := HO3.out.lt
            have hal := (Below.refl wj.heap.size wj).alloc (Nat.le_refl _) (.cells #[.int .i64 y0, .int .i64 x1, .int .i64 x2, .int .i64 x3, .bool false, .bool x5] 30)
            have HPL : Hid (HoldV (wj.alloc (.cells #[.int .i64 y0, .int .i64 x1, .int .i64 x2, .int .i64 x3, .bool false, .bool x5] 30)) wj.heap.size _ 30) := hide (hv_new wj #[.int .i64 y0, .int .i64 x1, .int .i64 x2, .int .i64 x3, .bool false, .bool x5] 30)
            have HV4 := hide (HV3.out.next hal); have HX4 := hide (HX3.out.next hal); have HRA4 := hide (HRA3.out.next hal); have HRB4 := hide (HRB3.out.next hal); have HN4 := hide (HN3.out.next hal); have HO4 := hide (HO3.out.next hal); have HB4 : Hid (Below w.heap.size w _) := hide (HB3.out.trans (hal.mono HB3.out.size))
            have o2' := HO4.out.cell 2 _ rfl; have of' := HO4.out.frozen
            have hsa : (wj.alloc (.cells #[.int .i64 y0, .int .i64 x1, .int .i64 x2, .int .i64 x3, .bool false, .bool x5] 30)).heap.size = wj.heap.size + 1 := World.size_alloc _ _
            clear hal HV3 HX3 HRA3 HRB3 HN3 HO3 HP3 HB3
            go_wp2_with (at_builtin; refine wpList_append_lies _ rfl _ _ 26 rfl (O + 1) 30 ip _ 6 40 Try.underlying26 HI.out HI0.out HI1.out HI2.out rfl (by decide) (.slice bz m nz) m ((ackL ack x zs (os.take i)).flatMap valPiece) rfl HV4.out ⟨wj.heap.size, 0, none⟩ 1 1 (valPiece ⟨y0, x1, x2, x3, false, x5⟩) rfl rfl (pc_cells HPL.out) (val_one1 _) (by omega) (by unfold maxLen; omega) (by omega) (by omega) _ rfl ?_)
            intro gt nt w3 hown' hgrow hlies _
            have HO5 : Hid (RowP w3 (O + 1) (.slice (some ⟨gt, 0, none⟩) (m + 1) nt) (m + 1) (ackL ack x zs (os.take (i + 1)))) := hide (by rw [HK.out, HF.out]; unfold RowP; rw [List.flatMap_append]; simpa using hown')
            have HM5 : Hid ((ackL ack x zs (os.take (i + 1))).length = m + 1) := hide (by rw [HK.out, List.length_append, HM.out]; rfl)
            have hkeep : ∀ b, b ≤ O → w3.heap[b]? = (wj.alloc (.cells #[.int .i64 y0, .int .i64 x1, .int .i64 x2, .int .i64 x3, .bool false, .bool x5] 30)).heap[b]? := fun b hb => hgrow.block b (by omega) (fun e => by
              have h1 := ownsAt.lt (ownsAt.of_row HV4.out) b e.symm
              omega)
            have HX5 : Hid (HoldV w3 w.heap.size _ 28) := hide ((hkeep _ (by omega)).trans HX4.out)
            have HRA5 : Hid (HoldV w3 (w.heap.size + 1) _ 28) := hide ((hkeep _ (by omega)).trans HRA4.out)
            have HRB5 : Hid (HoldV w3 (w.heap.size + 2) _ 41) := hide ((hkeep _ (by omega)).trans HRB4.out)
            have HN5 : Hid (HoldV w3 NB _ 41) := hide ((hkeep _ (by omega)).trans HN4.out)
            have HOO5 : Hid (HoldV w3 O _ 28) := hide ((hkeep _ (Nat.le_refl _)).trans HO4.out)
            have HB5 : Hid (Below w.heap.size w w3) := hide (HB4.out.trans ⟨hgrow.os, hgrow.tape, hgrow.output, hgrow.size, fun b hb => hkeep b (by omega)⟩)
            have hg6 : w3.grownBy (w3.setCell ⟨O, 2, none⟩ (.slice (some ⟨gt, 0, none⟩) (m + 1) nt)) (some O) := gr_set (grown_reflp _ _) 2 _
            have HX6 := hide (hv_gr HX5.out hg6 (by omega)); have HRA6 := hide (hv_gr HRA5.out hg6 (by omega)); have HRB6 := hide (hv_gr HRB5.out hg6 (by omega)); have HN6 := hide (hv_gr HN5.out hg6 (by omega))
            have HO6 := hide (hv_set HOO5.out 2 (.slice (some ⟨gt, 0, none⟩) (m + 1) nt))
            have HV6 := hide (row_gr HO5.out hg6 (by omega))
            have HB6 := hide (below_gr HB5.out hg6 HB5.out.size (by omega))
            have o3 := HOO5.out.cell 2 _ rfl; have o3f := HOO5.out.frozen
            clear hkeep hgrow hown' hlies hg6 HO5 HX5 HRA5 HRB5 HN5 HOO5 HB5 HV4 HX4 HRA4 HRB4 HN4 HO4 HB4 HPL hsa o2 o2' of of' r0 r1 r2 r3 r4 r5
            go_wp2_with fail
            exact ⟨⟨i + 1, m + 1, _, by omega, by go_num, HV6, HM5, HX6, HRA6, HRB6, hide (by rw [HG.out, HS2.out]; exact HN6.out), HO6, HB6⟩, by simp [intOf]; omega⟩
          | true =>
            have HNW : nwB ack x zs ⟨x0, x1, x2, x3, false, x5⟩ = true := by show (!false && wiB ack x (max x0 ack) x1 zs) = true; rw [← HY.out, hwi]; rfl
            have HF : Hid (ackF ack x zs ⟨x0, x1, x2, x3, false, x5⟩ = ⟨y0, x1, x2, x3, true, false⟩) := hide ((if_pos HNW).trans (by rw [HY.out]))
            have HG : Hid (ackG ack x zs (os.take (i + 1)) = g + x1 - y0) := hide (by
              have h1 : ackG ack x zs [⟨x0, x1, x2, x3, false, x5⟩] = x1 - y0 := by
                show (if ack < x1 ∧ nwB ack x zs ⟨x0, x1, x2, x3, false, x5⟩ = true then x1 - max x0 ack else 0) + 0 = _
                rw [if_pos ⟨by omega, HNW⟩, ← HY.out, Int.add_zero]
              rw [HTG.out, h1]
              omega)
            clear HTG HNW hwi
            have r4 := HP3'.out.cell 4 _ rfl; have r0 := HP3'.out.cell 0 _ rfl; have r1 := HP3'.out.cell 1 _ rfl; have r5 := HP3'.out.cell 5 _ rfl; have pf := HP3'.out.frozen
            have n1 := HN3'.out.cell 1 _ rfl; have nf := HN3'.out.frozen
            have hPO : O < PB := hOk
            have e1 : IntKind.i64.wrap (g + x1) = g + x1 := by rw [IntKind.wrap_i64]; omega
            have e2 : IntKind.i64.wrap (g + x1 - y0) = g + x1 - y0 := by rw [IntKind.wrap_i64]; omega
            have hg : wj.grownBy ((wj.setCell ⟨PB, 4, none⟩ (.bool true)).setCell ⟨PB, 5, none⟩ (.bool false)) (some PB) := gr_set (gr_set (grown_reflp _ _) 4 _) 5 _
            have HP4 : Hid (HoldV ((wj.setCell ⟨PB, 4, none⟩ (.bool true)).setCell ⟨PB, 5, none⟩ (.bool false)) PB #[.int .i64 y0, .int .i64 x1, .int .i64 x2, .int .i64 x3, .bool true, .bool false] 30) := hide (hv_set (hv_set HP3'.out 4 (.bool true)) 5 (.bool false))
            have hgo : ∀ b, b < PB → b ≠ PB := fun b h e => by omega
            have HX4 := hide (hv_gr HX3'.out hg (by omega)); have HRA4 := hide (hv_gr HRA3'.out hg (by omega)); have HRB4 := hide (hv_gr HRB3'.out hg (by omega)); have HN4 := hide (hv_gr HN3'.out hg (by omega)); have HO4 := hide (hv_gr HO3'.out hg (by omega))
            have HV4 := hide (row_gr2 HV3'.out hg (fun b hb e => by have := HOB.out b hb; omega))
            have HB4 := hide (below_gr HB3'.out hg HB3'.out.size (by omega))
            clear hg hgo
            have hg : ((wj.setCell ⟨PB, 4, none⟩ (.bool true)).setCell ⟨PB, 5, none⟩ (.bool false)).grownBy (((wj.setCell ⟨PB, 4, none⟩ (.bool true)).setCell ⟨PB, 5, none⟩ (.bool false)).setCell ⟨NB, 1, none⟩ (.int .i64 (g + x1 - y0))) (some NB) := gr_set (grown_reflp _ _) 1 _
            have HX3 := hide (hv_gr HX4.out hg (by omega)); have HRA3 := hide (hv_gr HRA4.out hg (by omega)); have HRB3 := hide (hv_gr HRB4.out hg (by omega)); have HO3 := hide (hv_gr HO4.out hg (by omega)); have HP3 := hide (hv_gr HP4.out hg (by omega))
            have HN3 := hide (hv_set HN4.out 1 (.int .i64 (g + x1 - y0)))
            have HV3 := hide (row_gr HV4.out hg (by omega))
            have HB3 := hide (below_gr HB4.out hg HB4.out.size (by omega))
            clear hg HX4 HRA4 HRB4 HN4 HO4 HP4 HV4 HB4 HX3' HRA3' HRB3' HN3' HO3' HP3' HV3' HB3'
            go_upto_region 17 with fail
            clear r4 r0 r1 r5 pf n1 nf
            generalize ((wj.setCell ⟨PB, 4, none⟩ (.bool true)).setCell ⟨PB, 5, none⟩ (.bool false)).setCell ⟨NB, 1, none⟩ (.int .i64 (g + x1 - y0)) = W4' at *
            have r0 := HP3.out.cell 0 (.int .i64 y0) rfl; have r1 := HP3.out.cell 1 (.int .i64 x1) rfl; have r2 := HP3.out.cell 2 (.int .i64 x2) rfl; have r3 := HP3.out.cell 3 (.int .i64 x3) rfl; have r4 := HP3.out.cell 4 (.bool true) rfl; have r5 := HP3.out.cell 5 (.bool false) rfl
            have o2 := HO3.out.cell 2 _ rfl; have of := HO3.out.frozen
            have hOj : O < W4'.heap.size := HO3.out.lt
            have hal := (Below.refl W4'.heap.size W4').alloc (Nat.le_refl _) (.cells #[.int .i64 y0, .int .i64 x1, .int .i64 x2, .int .i64 x3, .bool true, .bool false] 30)
            have HPL : Hid (HoldV (W4'.alloc (.cells #[.int .i64 y0, .int .i64 x1, .int .i64 x2, .int .i64 x3, .bool true, .bool false] 30)) W4'.heap.size _ 30) := hide (hv_new W4' #[.int .i64 y0, .int .i64 x1, .int .i64 x2, .int .i64 x3, .bool true, .bool false] 30)
            have HV4 := hide (HV3.out.next hal); have HX4 := hide (HX3.out.next hal); have HRA4 := hide (HRA3.out.next hal); have HRB4 := hide (HRB3.out.next hal); have HN4 := hide (HN3.out.next hal); have HO4 := hide (HO3.out.next hal); have HB4 : Hid (Below w.heap.size w _) := hide (HB3.out.trans (hal.mono HB3.out.size))
            have o2' := HO4.out.cell 2 _ rfl; have of' := HO4.out.frozen
            have hsa : (W4'.alloc (.cells #[.int .i64 y0, .int .i64 x1, .int .i64 x2, .int .i64 x3, .bool true, .bool false] 30)).heap.size = W4'.heap.size + 1 := World.size_alloc _ _
            clear hal HV3 HX3 HRA3 HRB3 HN3 HO3 HP3 HB3
            go_wp2_with (at_builtin; refine wpList_append_lies _ rfl _ _ 26 rfl (O + 1) 30 ip _ 6 40 Try.underlying26 HI.out HI0.out HI1.out HI2.out rfl (by decide) (.slice bz m nz) m ((ackL ack x zs (os.take i)).flatMap valPiece) rfl HV4.out ⟨W4'.heap.size, 0, none⟩ 1 1 (valPiece ⟨y0, x1, x2, x3, true, false⟩) rfl rfl (pc_cells HPL.out) (val_one1 _) (by omega) (by unfold maxLen; omega) (by omega) (by omega) _ rfl ?_)
            intro gt nt w3 hown' hgrow hlies _
            have HO5 : Hid (RowP w3 (O + 1) (.slice (some ⟨gt, 0, none⟩) (m + 1) nt) (m + 1) (ackL ack x zs (os.take (i + 1)))) := hide (by rw [HK.out, HF.out]; unfold RowP; rw [List.flatMap_append]; simpa using hown')
            have HM5 : Hid ((ackL ack x zs (os.take (i + 1))).length = m + 1) := hide (by rw [HK.out, List.length_append, HM.out]; rfl)
            have hkeep : ∀ b, b ≤ O → w3.heap[b]? = (W4'.alloc (.cells #[.int .i64 y0, .int .i64 x1, .int .i64 x2, .int .i64 x3, .bool true, .bool false] 30)).heap[b]? := fun b hb => hgrow.block b (by omega) (fun e => by
              have h1 := ownsAt.lt (ownsAt.of_row HV4.out) b e.symm
              omega)
            have HX5 : Hid (HoldV w3 w.heap.size _ 28) := hide ((hkeep _ (by omega)).trans HX4.out)
            have HRA5 : Hid (HoldV w3 (w.heap.size + 1) _ 28) := hide ((hkeep _ (by omega)).trans HRA4.out)
            have HRB5 : Hid (HoldV w3 (w.heap.size + 2) _ 41) := hide ((hkeep _ (by omega)).trans HRB4.out)
            have HN5 : Hid (HoldV w3 NB _ 41) := hide ((hkeep _ (by omega)).trans HN4.out)
            have HOO5 : Hid (HoldV w3 O _ 28) := hide ((hkeep _ (Nat.le_refl _)).trans HO4.out)
            have HB5 : Hid (Below w.heap.size w w3) := hide (HB4.out.trans ⟨hgrow.os, hgrow.tape, hgrow.output, hgrow.size, fun b hb => hkeep b (by omega)⟩)
            have hg6 : w3.grownBy (w3.setCell ⟨O, 2, none⟩ (.slice (some ⟨gt, 0, none⟩) (m + 1) nt)) (some O) := gr_set (grown_reflp _ _) 2 _
            have HX6 := hide (hv_gr HX5.out hg6 (by omega)); have HRA6 := hide (hv_gr HRA5.out hg6 (by omega)); have HRB6 := hide (hv_gr HRB5.out hg6 (by omega)); have HN6 := hide (hv_gr HN5.out hg6 (by omega))
            have HO6 := hide (hv_set HOO5.out 2 (.slice (some ⟨gt, 0, none⟩) (m + 1) nt))
            have HV6 := hide (row_gr HO5.out hg6 (by omega))
            have HB6 := hide (below_gr HB5.out hg6 HB5.out.size (by omega))
            have o3 := HOO5.out.cell 2 _ rfl; have o3f := HOO5.out.frozen
            clear hkeep hgrow hown' hlies hg6 HO5 HX5 HRA5 HRB5 HN5 HOO5 HB5 HV4 HX4 HRA4 HRB4 HN4 HO4 HB4 HPL hsa o2 o2' of of' r0 r1 r2 r3 r4 r5
            go_wp2_with fail
            exact ⟨⟨i + 1, m + 1, _, by omega, by go_num, HV6, HM5, HX6, HRA6, HRB6, hide (by rw [HG.out, HS2.out]; exact HN6.out), HO6, HB6⟩, by simp [intOf]; omega⟩
    · have hin : i = n := by omega
      have HTK : Hid (os.take i = os) := hide (List.take_of_length_le (by rw [HN.out, hin]; exact Nat.le_refl _))
      have HFL : Hid (RowP wk (O + 1) (.slice bz m nz) m (ackL ack x zs os)) := hide (by have h := HV.out; rw [HTK.out] at h; exact h)
      have HFM : Hid ((ackL ack x zs os).length = m) := hide (by have h := HM.out; rw [HTK.out] at h; exact h)
      have HFN : Hid (HoldV wk NB #[.int .i64 (ack - u), .int .i64 (ackG ack x zs os), .int .i64 (ackS ack os)] 41) := hide (by have h := HNB.out; rw [HTK.out] at h; exact h)
      clear HV HM HNB HTK
      have o0 := HO.out.cell 0 _ rfl; have o1 := HO.out.cell 1 _ rfl; have o2 := HO.out.cell 2 _ rfl
      have n0 := HFN.out.cell 0 _ rfl; have n1 := HFN.out.cell 1 _ rfl; have n2 := HFN.out.cell 2 _ rfl
      have HRB' : Hid (HoldV wk (w.heap.size + 1 + 1) #[.int .i64 0, .int .i64 0, .int .i64 0] 41) := hide HRB.out
      obtain ⟨RA, hRA⟩ : ∃ RA, RA = w.heap.size + 1 := ⟨_, rfl⟩
      obtain ⟨RB, hRB⟩ : ∃ RB, RB = RA + 1 := ⟨_, rfl⟩
      have hOw : RA < O + 1 := by omega
      have hOw2 : RB < O + 1 := by omega
      have hra : w.heap.size ≤ RA := by omega
      have hrb : w.heap.size ≤ RB := by omega
      have z1 : RA ≠ RB := by omega
      have z2 : NB ≠ RA := by omega
      have z3 : NB ≠ RB := by omega
      have z4 : O ≠ RA := by omega
      have z5 : O ≠ RB := by omega
      rw [← hRA, ← hRB] at HRB'
      rw [← hRA] at HRA
      have ra0 := HRA.out.cell 0 _ rfl; have ra1 := HRA.out.cell 1 _ rfl; have ra2 := HRA.out.cell 2 _ rfl; have raf := HRA.out.frozen
      have rb0 := HRB'.out.cell 0 _ rfl; have rb1 := HRB'.out.cell 1 _ rfl; have rb2 := HRB'.out.cell 2 _ rfl; have rbf := HRB'.out.frozen
      clear HRB
      go_upto_region 18 with fail
      simp only [← hRA]
      simp only [← hRB]
      clear k2 hRA hRB
      have raf0 : wk.frozen? ⟨RA, 0, none⟩ = false := raf 0
      have raf1 : wk.frozen? ⟨RA, 1, none⟩ = false := raf 1
      have raf2 : wk.frozen? ⟨RA, 2, none⟩ = false := raf 2
      have rbf0 : wk.frozen? ⟨RB, 0, none⟩ = false := rbf 0
      have rbf1 : wk.frozen? ⟨RB, 1, none⟩ = false := rbf 1
      have rbf2 : wk.frozen? ⟨RB, 2, none⟩ = false := rbf 2
      go_region
      have hgA : wk.grownBy (((wk.setCell ⟨RA, 0, none⟩ (.int .i64 ack)).setCell ⟨RA, 1, none⟩ (.int .i64 x)).setCell ⟨RA, 2, none⟩ (.slice bz m nz)) (some RA) := gr_set (gr_set (gr_set (grown_reflp _ _) 0 _) 1 _) 2 _
      have HA1 := hide (row_gr HFL.out hgA (by omega))
      have HA2 := hide (below_gr HB.out hgA HB.out.size hra)
      have HA3 := hide (hv_set (hv_set (hv_set HRA.out 0 (.int .i64 ack)) 1 (.int .i64 x)) 2 (.slice bz m nz))
      have HA4 := hide (hv_gr HRB'.out hgA (fun e => z1 e.symm))
      clear hgA
      generalize hW5 : ((wk.setCell ⟨RA, 0, none⟩ (.int .i64 ack)).setCell ⟨RA, 1, none⟩ (.int .i64 x)).setCell ⟨RA, 2, none⟩ (.slice bz m nz) = W5 at *
      clear hW5 ra0 ra1 ra2 rb0 rb1 rb2 o0 o1 o2 n0 n1 n2 raf rbf raf0 raf1 raf2 rbf0 rbf1 rbf2
      have hgB : W5.grownBy (((W5.setCell ⟨RB, 0, none⟩ (.int .i64 (ack - u))).setCell ⟨RB, 1, none⟩ (.int .i64 (ackG ack x zs os))).setCell ⟨RB, 2, none⟩ (.int .i64 (ackS ack os))) (some RB) := gr_set (gr_set (gr_set (grown_reflp _ _) 0 _) 1 _) 2 _
      have HC1 := hide (row_gr HA1.out hgB (by omega))
      have HC2 := hide (below_gr HA2.out hgB HA2.out.size hrb)
      have HC3 := hide (hv_gr HA3.out hgB z1)
      have HC4 := hide (hv_set (hv_set (hv_set HA4.out 0 (.int .i64 (ack - u))) 1 (.int .i64 (ackG ack x zs os))) 2 (.int .i64 (ackS ack os)))
      clear hgB HA1 HA2 HA3 HA4
      generalize ((W5.setCell ⟨RB, 0, none⟩ (.int .i64 (ack - u))).setCell ⟨RB, 1, none⟩ (.int .i64 (ackG ack x zs os))).setCell ⟨RB, 2, none⟩ (.int .i64 (ackS ack os)) = W6 at *
      have hdr := (Below.refl W6.heap.size W6).drew
      have HD1 := hide (HC1.out.next hdr)
      have HD2 : Hid (Below w.heap.size w W6.drew) := hide HC2.out.drew
      have a0 := (HC3.out.next hdr).cell 0 (.int .i64 ack) rfl; have a1 := (HC3.out.next hdr).cell 1 (.int .i64 x) rfl; have a2 := (HC3.out.next hdr).cell 2 (.slice bz m nz) rfl
      have b0 := (HC4.out.next hdr).cell 0 (.int .i64 (ack - u)) rfl; have b1 := (HC4.out.next hdr).cell 1 (.int .i64 (ackG ack x zs os)) rfl; have b2 := (HC4.out.next hdr).cell 2 (.int .i64 (ackS ack os)) rfl
      clear hdr HC1 HC2 HC3 HC4
      generalize W6.drew = W7 at *
      go_wp2_with fail
      exact bodyPost_ret (v := .tuple #[.agg #[.int .i64 ack, .int .i64 x, .slice bz m nz], .agg #[.int .i64 (ack - u), .int .i64 (ackG ack x zs os), .int .i64 (ackS ack os)], .int .i64 0]) (by simp [results, Try.results14, go_sem, a0, a1, a2, b0, b1, b2]) rfl ⟨_, rfl, ownP_mono (row_own HD1.out HFM.out) (by omega), HD2.out⟩
end Go.Proofs.Ytddkcgngpclgfab
