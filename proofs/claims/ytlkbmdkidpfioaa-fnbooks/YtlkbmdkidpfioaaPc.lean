/-
Contracts of functions of this seat.
-/
import Derived.Test.YtlkbmdkidpfioaaRows
import Derived.WalkKit
import Derived.ProofKit
import Derived.OpenShut
import Derived.Deep.QuietTactic
import Derived.Below
import Derived.Laws.Externs
import Derived.OwnWalk
import Derived.BigQuiet
import Derived.ArgAppend
import Derived.RegionTactic
import Derived.ChangeAlike
import Derived.Lib.QuietBelow
import Derived.Laws.OwnMore
import Derived.Lib.MinMax
import Derived.Deep.RegionHeld3
import Derived.Deep.RegionWith
import Derived.Deep.DeepAppendRoom
import Derived.Deep.Cut
import Derived.Laws.MakeOwn
import Derived.Deep.RegionLawGrows
import Derived.Deep.AppendLies
import Derived.StillTailTactics
import Derived.Test.YtlkbmdkidpfioaaPb
namespace Go.Proofs.Ytlkbmdkidpfioaa
open Go.ChangeShapes Go.WideShapes Go.ChangeAt Go.RowKit
set_option linter.unusedVariables false
set_option maxRecDepth 100000
set_option maxRecDepth 100000
/-- Is a piece told to be there anew? -/
def nwB (ack x : Int) (zs : List Int) (p : PieceM) : Bool := !p.f4 && wiB ack x (max p.f0 ack) p.f1 zs
/-- A piece behind an acknowledgement. -/
def ackF (ack x : Int) (zs : List Int) (p : PieceM) : PieceM := if nwB ack x zs p = true then ⟨max p.f0 ack, p.f1, p.f2, p.f3, true, false⟩ else ⟨max p.f0 ack, p.f1, p.f2, p.f3, p.f4, p.f5⟩
def ackL (ack x : Int) (zs : List Int) (os : List PieceM) : List PieceM := (os.filter (fun p => decide (ack < p.f1))).map (ackF ack x zs)
/-- The time of the last piece that measures, of those that are acknowledged. -/
def ackS (ack : Int) (os : List PieceM) : Int := os.foldl (fun s p => if p.f1 ≤ ack ∧ p.f3 = 1 ∧ p.f4 = false then p.f2 else s) (-1)
/-- How many bytes are told to be there anew. -/
def ackG (ack x : Int) (zs : List Int) : List PieceM → Int
  | [] => 0
  | p :: r => (if ack < p.f1 ∧ nwB ack x zs p = true then p.f1 - max p.f0 ack else 0) + ackG ack x zs r
theorem ackL_app (ack x : Int) (zs : List Int) (a b : List PieceM) : ackL ack x zs (a ++ b) = ackL ack x zs a ++ ackL ack x zs b := by unfold ackL; rw [List.filter_append, List.map_append]
theorem ackL_len (ack x : Int) (zs : List Int) (a : List PieceM) : (ackL ack x zs a).length ≤ a.length := by unfold ackL; rw [List.length_map]; exact List.length_filter_le _ _
theorem ackG_app (ack x : Int) (zs : List Int) : ∀ (a b : List PieceM), ackG ack x zs (a ++ b) = ackG ack x zs a + ackG ack x zs b
  | [], b => by simp [ackG]
  | o :: a, b => by show _ + ackG ack x zs (a ++ b) = _ + ackG ack x zs a + ackG ack x zs b; rw [ackG_app ack x zs a b]; omega
theorem ackG_le (ack x : Int) (zs : List Int) : ∀ (os : List PieceM) (u m : Int), chk u os = some m → 0 ≤ ackG ack x zs os ∧ ackG ack x zs os ≤ m - u
  | [], u, m, h => by cases h; simp [ackG]
  | o :: a, u, m, h => by
    by_cases hh : o.f0 = u ∧ vp o
    · rw [chk_cons hh.1 hh.2] at h
      have h1 := ackG_le ack x zs a _ _ h
      have h2 := hh.2.1
      have h3 := hh.1
      show 0 ≤ (if ack < o.f1 ∧ nwB ack x zs o = true then o.f1 - max o.f0 ack else 0) + ackG ack x zs a ∧ (if ack < o.f1 ∧ nwB ack x zs o = true then o.f1 - max o.f0 ack else 0) + ackG ack x zs a ≤ m - u
      by_cases hc : ack < o.f1 ∧ nwB ack x zs o = true
      · rw [if_pos hc]; have := hc.1; omega
      · rw [if_neg hc]; omega
    · rw [chk_ill hh] at h; cases h
theorem ack_gone {ack x : Int} {zs : List Int} {p : PieceM} (h : p.f1 ≤ ack) : ackL ack x zs [p] = [] ∧ ackG ack x zs [p] = 0 := by
  have h2 : ¬ ack < p.f1 := Int.not_lt.2 h
  refine ⟨by simp [ackL, h2], by simp [ackG, h2]⟩
theorem ack_keep {ack x : Int} {zs : List Int} {p : PieceM} (h : ¬ p.f1 ≤ ack) : ackL ack x zs [p] = [ackF ack x zs p] := by
  have h2 : ack < p.f1 := Int.not_le.1 h
  simp [ackL, h2]
theorem ackS_snoc (ack : Int) (a : List PieceM) (p : PieceM) : ackS ack (a ++ [p]) = if p.f1 ≤ ack ∧ p.f3 = 1 ∧ p.f4 = false then p.f2 else ackS ack a := by unfold ackS; rw [List.foldl_append]; rfl
theorem row_gr2 {W W' : World} {BB n g : Nat} {v : Value} {os : List PieceM} (h : RowP W BB v n os) (hg : W.grownBy W' (some g)) (hne : ∀ b, v.ownBlock = some b → b ≠ g) : RowP W' BB v n os := by
  refine ⟨h.1, ?_⟩
  rcases h.2 with h0 | ⟨r, cap, cur, hv, hB, hr, hrest⟩
  · exact .inl h0
  · exact .inr ⟨r, cap, cur, hv, hB, (hg.block r (Array.getElem?_eq_some_iff.1 hr).1 (fun e => by cases e; exact hne g (by rw [hv]; rfl) rfl)).trans hr, hrest⟩
set_option maxHeartbeats 24000000 in
theorem specAck_yes {u x : Int} {os : List PieceM} (ack : Int) (zs : List Int) (hok : bOK u x os) (hs : u ≤ ack ∧ ack ≤ x) (hz : zs.length ≤ 6) : BoardAckP 55 (fun _ => True) u x os ack zs ack x (ackL ack x zs os) (ack - u) (ackG ack x zs os) (ackS ack os) 0 := by
  intro a n cap aq nq cq w hn ha hc hm hn2 ha2 hc2 hm2 _
  obtain ⟨hb3, hX, hRA, hRB⟩ := three_boxes w #[.int .i64 u, .int .i64 x, .slice a n cap] #[.int .i64 0, .int .i64 0, .slice none 0 0] #[.int .i64 0, .int .i64 0, .int .i64 0] 29 29 39
  have HB2 := hide hb3; have HX := hide hX; have HRA := hide hRA; have HRB := hide hRB
  have k0 := hX.cell 0 _ rfl; have k1 := hX.cell 1 _ rfl; have k2 := hX.cell 2 _ rfl
  have CV := hide (l15OK_walk u x a n cap os (((w.alloc (.cells #[.int .i64 u, .int .i64 x, .slice a n cap] 29)).alloc (.cells #[.int .i64 0, .int .i64 0, .slice none 0 0] 29)).alloc (.cells #[.int .i64 0, .int .i64 0, .int .i64 0] 39)) hn (ha.below hb3 (Nat.le_refl _)) hm)
  rw [bokB_yes hok] at CV
  have HOK := hide hok
  have HN := hide hn
  have HA0 := hide ha
  have HZ0 := hide ha2
  have HNZ := hide hn2
  have HMZ := hide hm2
  have h1 : inB ack u x = true := inB_iff.2 hs
  obtain ⟨kk1, kk2⟩ := hs
  have hu0 : 0 ≤ u := hok.1
  have hx0 : x ≤ 1099511627776 := hok.2.1
  have hn4 : n ≤ 4096 := by rw [← hn]; exact hok.2.2.1
  have hnq : (nq : Int) ≤ 3 := by omega
  have hwu : IntKind.i64.wrap (ack - u) = ack - u := by rw [IntKind.wrap_i64]; omega
  have HSB : Hid (∀ i, 0 ≤ ackG ack x zs (os.take i) ∧ ackG ack x zs (os.take i) ≤ 1099511627776) := hide (fun i => by
    have h := hok
    rw [← List.take_append_drop i os] at h
    obtain ⟨m, h1, h2⟩ := chk_app _ _ _ _ h.2.2.2
    have h3 := ackG_le ack x zs _ _ _ h1
    have h4 := chk_le _ _ _ h2
    have := h.1; have := h.2.1
    omega)
  obtain ⟨ip, hi, hz0, hz1, hz2⟩ := info_parts Try.infoPiece
  have HI := hide hi; have HI0 := hide hz0; have HI1 := hide hz1; have HI2 := hide hz2
  clear hi hz0 hz1 hz2
  clear hn ha ha2 hn2 hm2 hok hb3 hX hRA hRB hz
  go_enter Try.func55, Try.ntmps55
  go_wp2_with fail
  refine CV.out.mono ?_
  rintro e w1 ⟨rfl, hw1⟩
  have HX1 := hide (HX.out.next hw1); have HRA1 := hide (HRA.out.next hw1); have HRB1 := hide (HRB.out.next hw1)
  have HB1 : Hid (Below w.heap.size w w1) := hide (HB2.out.trans (hw1.mono HB2.out.size))
  have hV1 : w.heap.size + 2 < w1.heap.size := HRB1.out.lt
  clear hw1 CV k0 k1 k2 HB2 HX HRA HRB
  have k0 := HX1.out.cell 0 _ rfl; have k1 := HX1.out.cell 1 _ rfl; have k2 := HX1.out.cell 2 _ rfl
  go_upto_region 3 with (go_at_call 23; refine (In_walk _ _ _ _).mono ?_; rintro e w9 ⟨rfl, hq⟩; rw [hq]; clear hq)
  obtain ⟨hb2, hN, hO⟩ := two_boxes w1 #[.int .i64 (ack - u), .int .i64 0, .int .i64 (-1)] #[.int .i64 ack, .int .i64 x, .slice none 0 0] 39 29
  have HX2 := hide (HX1.out.next hb2); have HRA2 := hide (HRA1.out.next hb2); have HRB2 := hide (HRB1.out.next hb2); have HB2 : Hid (Below w.heap.size w _) := hide (HB1.out.trans (hb2.mono HB1.out.size))
  have HN2 := hide hN; have HO2 := hide hO
  have kx := hv_alloc HX1.out (.cells #[.int .i64 (ack - u), .int .i64 0, .int .i64 (-1)] 39)
  have kx1 := kx.cell 1 _ rfl
  clear hb2 hN hO kx HX1 HRA1 HRB1 HB1
  go_upto_region 5 with fail
  clear k0 k1 k2 kx1
  generalize (w1.alloc (.cells #[.int .i64 (ack - u), .int .i64 0, .int .i64 (-1)] 39)).alloc (.cells #[.int .i64 ack, .int .i64 x, .slice none 0 0] 29) = V2 at *
  obtain ⟨O, hOe⟩ : ∃ O, O = w1.heap.size + 1 := ⟨_, rfl⟩
  obtain ⟨NB, hNe⟩ : ∃ NB, NB = w1.heap.size := ⟨_, rfl⟩
  rw [← hOe] at HO2; rw [← hNe] at HN2
  simp only [← hNe]
  have hOe2 : NB + 1 = O := by omega
  simp only [hOe2]
  have hNO : NB < O := by omega
  have hVN : w.heap.size + 2 < NB := by omega
  clear hOe hNe hOe2 hV1
  go_wp2_with fail
  go_loopw [11] (fun t w2 => ∃ (i m : Nat) (v : Value), i ≤ n ∧ t = .int .i64 i ∧ Hid (RowP w2 (O + 1) v m (ackL ack x zs (os.take i))) ∧ Hid ((ackL ack x zs (os.take i)).length = m) ∧ Hid (HoldV w2 w.heap.size #[.int .i64 u, .int .i64 x, .slice a n cap] 29) ∧ Hid (HoldV w2 (w.heap.size + 1) #[.int .i64 0, .int .i64 0, .slice none 0 0] 29) ∧ Hid (HoldV w2 (w.heap.size + 2) #[.int .i64 0, .int .i64 0, .int .i64 0] 39) ∧ Hid (HoldV w2 NB #[.int .i64 (ack - u), .int .i64 (ackG ack x zs (os.take i)), .int .i64 (ackS ack (os.take i))] 39) ∧ Hid (HoldV w2 O #[.int .i64 ack, .int .i64 x, v] 29) ∧ Hid (Below w.heap.size w w2)) (fun t _ => n - (intOf t).toNat)
  case atStart => exact ⟨0, 0, .slice none 0 0, Nat.zero_le _, rfl, hide ⟨rfl, .inl ⟨rfl, rfl⟩⟩, hide rfl, HX2, HRA2, HRB2, HN2, HO2, HB2⟩
  case round =>
    rename World => wk
    obtain ⟨i, m, v, hi, rfl, HV, HM, HX, HRA, HRB, HNB, HO, HB⟩ := hrel
    obtain ⟨bz, nz, rfl⟩ := HV.out.form
    have k2 := HX.out.cell 2 _ rfl
    by_cases hlt : i < n
    · have hio : i < os.length := by rw [HN.out]; exact hlt
      have HNA : Hid (ArrP wk a (os.flatMap valPiece)) := hide (HA0.out.below HB.out (Nat.le_refl _))
      obtain ⟨b, off, hab, hbs, c0, c1, c2, c3, c4, c5⟩ := piece_cells HNA.out hio
      subst hab
      obtain ⟨q0, q1, q2⟩ : 0 ≤ os[i].f0 ∧ os[i].f0 < os[i].f1 ∧ os[i].f1 ≤ 1099511627776 := bOK_piece HOK.out (List.getElem_mem hio)
      have HTS : Hid (ackS ack (os.take (i + 1)) = if os[i].f1 ≤ ack ∧ os[i].f3 = 1 ∧ os[i].f4 = false then os[i].f2 else ackS ack (os.take i)) := hide (by rw [take_snoc hio, ackS_snoc])
      have HTG : Hid (ackG ack x zs (os.take (i + 1)) = ackG ack x zs (os.take i) + ackG ack x zs [os[i]]) := hide (by rw [take_snoc hio, ackG_app])
      have HTL : Hid (ackL ack x zs (os.take (i + 1)) = ackL ack x zs (os.take i) ++ ackL ack x zs [os[i]]) := hide (by rw [take_snoc hio, ackL_app])
      have hmi : m ≤ 4096 := by
        have h1 := HM.out
        have h2 := ackL_len ack x zs (os.take i)
        have h3 : (os.take i).length ≤ i := by rw [List.length_take]; omega
        omega
      obtain ⟨s0, s1⟩ := HSB.out i
      generalize os[i] = qq at *
      generalize ackG ack x zs (os.take i) = g at *
      generalize ackS ack (os.take i) = sv at *
      obtain ⟨x0, x1, x2, x3, x4, x5⟩ := qq
      try dsimp only at c0 c1 c2 c3 c4 c5 q0 q1 q2
      have hal := (Below.refl wk.heap.size wk).alloc (Nat.le_refl _) (.cells #[.int .i64 x0, .int .i64 x1, .int .i64 x2, .int .i64 x3, .bool x4, .bool x5] 48)
      have HPB : Hid (HoldV (wk.alloc (.cells #[.int .i64 x0, .int .i64 x1, .int .i64 x2, .int .i64 x3, .bool x4, .bool x5] 48)) wk.heap.size _ 48) := hide (hv_new wk #[.int .i64 x0, .int .i64 x1, .int .i64 x2, .int .i64 x3, .bool x4, .bool x5] 48)
      have hOk : O < wk.heap.size := HO.out.lt
      have HV2 := hide (HV.out.next hal); have HX2' := hide (HX.out.next hal); have HRA2' := hide (HRA.out.next hal); have HRB2' := hide (HRB.out.next hal); have HN2' := hide (HNB.out.next hal); have HO2' := hide (HO.out.next hal); have HB2' : Hid (Below w.heap.size w _) := hide (HB.out.trans (hal.mono HB.out.size))
      have HOB : Hid (∀ b, (Value.slice bz m nz).ownBlock = some b → b < wk.heap.size) := hide (fun b hb => (ownsAt.lt (ownsAt.of_row HV.out) b hb).2)
      have kk2' := HX2'.out.cell 2 _ rfl
      clear hal HV HX HRA HRB HNB HO HB
      go_upto_region 9 with fail
      clear c0 c1 c2 c3 c4 c5 k2 kk2'
      generalize wk.alloc (.cells #[.int .i64 x0, .int .i64 x1, .int .i64 x2, .int .i64 x3, .bool x4, .bool x5] 48) = V3 at *
      obtain ⟨PB, hPB⟩ : ∃ PB, PB = wk.heap.size := ⟨_, rfl⟩
      rw [← hPB] at HPB HOB hOk
      simp only [← hPB]
      clear hPB
      have r0 := HPB.out.cell 0 _ rfl; have r1 := HPB.out.cell 1 _ rfl; have r2 := HPB.out.cell 2 _ rfl; have r3 := HPB.out.cell 3 _ rfl; have r4 := HPB.out.cell 4 _ rfl; have r5 := HPB.out.cell 5 _ rfl; have pf := HPB.out.frozen
      by_cases hd : x1 ≤ ack
      · have HK : Hid (ackL ack x zs (os.take (i + 1)) = ackL ack x zs (os.take i)) := hide (by rw [HTL.out, (ack_gone (p := ⟨x0, x1, x2, x3, x4, x5⟩) hd).1, List.append_nil])
        have HG : Hid (ackG ack x zs (os.take (i + 1)) = g) := hide (by rw [HTG.out, (ack_gone (p := ⟨x0, x1, x2, x3, x4, x5⟩) hd).2, Int.add_zero])
        clear HTL HTG
        by_cases h3 : x3 = 1
        · cases x4 with
          | false =>
            have HS2 : Hid (ackS ack (os.take (i + 1)) = x2) := hide (by rw [HTS.out, if_pos ⟨hd, h3, rfl⟩])
            clear HTS
            have n2 := HN2'.out.cell 2 _ rfl; have nf := HN2'.out.frozen
            have hg : V3.grownBy (V3.setCell ⟨NB, 2, none⟩ (.int .i64 x2)) (some NB) := gr_set (grown_reflp _ _) 2 _
            have hNP : NB ≠ O := by omega
            have HX6 := hide (hv_gr HX2'.out hg (by omega)); have HRA6 := hide (hv_gr HRA2'.out hg (by omega)); have HRB6 := hide (hv_gr HRB2'.out hg (by omega)); have HO6 := hide (hv_gr HO2'.out hg (by omega))
            have HN6 := hide (hv_set HN2'.out 2 (.int .i64 x2))
            have HV6 := hide (row_gr HV2.out hg (by omega))
            have HB6 := hide (below_gr HB2'.out hg HB2'.out.size (by omega))
            clear hg HN2' HX2' HRA2' HRB2' HO2' HV2 HB2'
            have h3b : (x3 == 1) = true := by rw [h3]; rfl
            go_wp2_with fail
            exact ⟨⟨i + 1, m, _, by omega, by go_num, hide (by rw [HK.out]; exact HV6.out), hide (by rw [HK.out]; exact HM.out), HX6, HRA6, HRB6, hide (by rw [HG.out, HS2.out]; exact HN6.out), HO6, HB6⟩, by simp [intOf]; omega⟩
          | true =>
            have HS2 : Hid (ackS ack (os.take (i + 1)) = sv) := hide (by rw [HTS.out, if_neg (by simp)])
            clear HTS
            have h3b : (x3 == 1) = true := by rw [h3]; rfl
            go_wp2_with fail
            exact ⟨⟨i + 1, m, _, by omega, by go_num, hide (by rw [HK.out]; exact HV2.out), hide (by rw [HK.out]; exact HM.out), HX2', HRA2', HRB2', hide (by rw [HG.out, HS2.out]; exact HN2'.out), HO2', HB2'⟩, by simp [intOf]; omega⟩
        · have HS2 : Hid (ackS ack (os.take (i + 1)) = sv) := hide (by rw [HTS.out, if_neg (fun h => h3 h.2.1)])
          clear HTS
          have h3b : (x3 == 1) = false := beq_eq_false_iff_ne.2 h3
          go_wp2_with fail
          exact ⟨⟨i + 1, m, _, by omega, by go_num, hide (by rw [HK.out]; exact HV2.out), hide (by rw [HK.out]; exact HM.out), HX2', HRA2', HRB2', hide (by rw [HG.out, HS2.out]; exact HN2'.out), HO2', HB2'⟩, by simp [intOf]; omega⟩
      · have HK : Hid (ackL ack x zs (os.take (i + 1)) = ackL ack x zs (os.take i) ++ [ackF ack x zs ⟨x0, x1, x2, x3, x4, x5⟩]) := hide (by rw [HTL.out, ack_keep (p := ⟨x0, x1, x2, x3, x4, x5⟩) hd])
        have HS2 : Hid (ackS ack (os.take (i + 1)) = sv) := hide (by rw [HTS.out, if_neg (fun h => hd h.1)])
        clear HTL HTS
        obtain ⟨y0, hy0⟩ : ∃ y0, y0 = max x0 ack := ⟨_, rfl⟩
        have HY := hide hy0
        have hy1 : 0 ≤ y0 := by omega
        have hy2 : y0 < x1 := by omega
        clear hy0
        go_upto_region 12 with fail
        go_upto_region 13 with (go_at_call 64; refine (l14Max_walk _ _ _).mono ?_; rintro e w9 ⟨rfl, hq⟩; rw [hq, ← HY.out]; clear hq)
        have hg : V3.grownBy (V3.setCell ⟨PB, 0, none⟩ (.int .i64 y0)) (some PB) := gr_set (grown_reflp _ _) 0 _
        have HX3 := hide (hv_gr HX2'.out hg (by omega)); have HRA3 := hide (hv_gr HRA2'.out hg (by omega)); have HRB3 := hide (hv_gr HRB2'.out hg (by omega)); have HN3 := hide (hv_gr HN2'.out hg (by omega)); have HO3 := hide (hv_gr HO2'.out hg (by omega))
        have HP3 : Hid (HoldV (V3.setCell ⟨PB, 0, none⟩ (.int .i64 y0)) PB #[.int .i64 y0, .int .i64 x1, .int .i64 x2, .int .i64 x3, .bool x4, .bool x5] 48) := hide (hv_set HPB.out 0 (.int .i64 y0))
        have HV3 : Hid (RowP (V3.setCell ⟨PB, 0, none⟩ (.int .i64 y0)) (O + 1) (.slice bz m nz) m (ackL ack x zs (os.take i))) := hide (row_gr2 HV2.out hg (fun b hb e => by have := HOB.out b hb; omega))
        have HB3 := hide (below_gr HB2'.out hg HB2'.out.size (by have := HB2'.out.size; omega))
        clear hg HV2 HX2' HRA2' HRB2' HN2' HO2' HPB HB2' r0 r1 r2 r3 r4 r5 pf
        generalize V3.setCell ⟨PB, 0, none⟩ (.int .i64 y0) = W4 at *
        cases x4 with
        | true =>
          have HNW : nwB ack x zs ⟨x0, x1, x2, x3, true, x5⟩ = false := rfl
          have HF : Hid (ackF ack x zs ⟨x0, x1, x2, x3, true, x5⟩ = ⟨y0, x1, x2, x3, true, x5⟩) := hide ((if_neg (fun h => by rw [HNW] at h; cases h)).trans (by rw [HY.out]))
          have HG : Hid (ackG ack x zs (os.take (i + 1)) = g) := hide (by
            have h1 : ackG ack x zs [⟨x0, x1, x2, x3, true, x5⟩] = 0 := by
              show (if ack < x1 ∧ nwB ack x zs ⟨x0, x1, x2, x3, true, x5⟩ = true then x1 - max x0 ack else 0) + 0 = _
              rw [if_neg (fun h => by rw [HNW] at h; cases h.2)]
              rfl
            rw [HTG.out, h1, Int.add_zero])
          clear HTG HNW
          have r4 := HP3.out.cell 4 _ rfl
          go_upto_region 17 with fail
          clear r4
          have r0 := HP3.out.cell 0 (.int .i64 y0) rfl; have r1 := HP3.out.cell 1 (.int .i64 x1) rfl; have r2 := HP3.out.cell 2 (.int .i64 x2) rfl; have r3 := HP3.out.cell 3 (.int .i64 x3) rfl; have r4 := HP3.out.cell 4 (.bool true) rfl; have r5 := HP3.out.cell 5 (.bool x5) rfl
          have o2 := HO3.out.cell 2 _ rfl; have of := HO3.out.frozen
          have hOj : O < W4.heap.size := HO3.out.lt
          have hal := (Below.refl W4.heap.size W4).alloc (Nat.le_refl _) (.cells #[.int .i64 y0, .int .i64 x1, .int .i64 x2, .int .i64 x3, .bool true, .bool x5] 48)
          have HPL : Hid (HoldV (W4.alloc (.cells #[.int .i64 y0, .int .i64 x1, .int .i64 x2, .int .i64 x3, .bool true, .bool x5] 48)) W4.heap.size _ 48) := hide (hv_new W4 #[.int .i64 y0, .int .i64 x1, .int .i64 x2, .int .i64 x3, .bool true, .bool x5] 48)
          have HV4 := hide (HV3.out.next hal); have HX4 := hide (HX3.out.next hal); have HRA4 := hide (HRA3.out.next hal); have HRB4 := hide (HRB3.out.next hal); have HN4 := hide (HN3.out.next hal); have HO4 := hide (HO3.out.next hal); have HB4 : Hid (Below w.heap.size w _) := hide (HB3.out.trans (hal.mono HB3.out.size))
          have o2' := HO4.out.cell 2 _ rfl; have of' := HO4.out.frozen
          have hsa : (W4.alloc (.cells #[.int .i64 y0, .int .i64 x1, .int .i64 x2, .int .i64 x3, .bool true, .bool x5] 48)).heap.size = W4.heap.size + 1 := World.size_alloc _ _
          clear hal HV3 HX3 HRA3 HRB3 HN3 HO3 HP3 HB3
          go_wp2_with (at_builtin; refine wpList_append_lies _ rfl _ _ 27 rfl (O + 1) 48 ip _ 6 40 Try.underlying27 HI.out HI0.out HI1.out HI2.out rfl (by decide) (.slice bz m nz) m ((ackL ack x zs (os.take i)).flatMap valPiece) rfl HV4.out ⟨W4.heap.size, 0, none⟩ 1 1 (valPiece ⟨y0, x1, x2, x3, true, x5⟩) rfl rfl (pc_cells HPL.out) (val_one1 _) (by omega) (by unfold maxLen; omega) (by omega) (by omega) _ rfl ?_)
          intro gt nt w3 hown' hgrow hlies _
          have HO5 : Hid (RowP w3 (O + 1) (.slice (some ⟨gt, 0, none⟩) (m + 1) nt) (m + 1) (ackL ack x zs (os.take (i + 1)))) := hide (by rw [HK.out, HF.out]; unfold RowP; rw [List.flatMap_append]; simpa using hown')
          have HM5 : Hid ((ackL ack x zs (os.take (i + 1))).length = m + 1) := hide (by rw [HK.out, List.length_append, HM.out]; rfl)
          have hkeep : ∀ b, b ≤ O → w3.heap[b]? = (W4.alloc (.cells #[.int .i64 y0, .int .i64 x1, .int .i64 x2, .int .i64 x3, .bool true, .bool x5] 48)).heap[b]? := fun b hb => hgrow.block b (by omega) (fun e => by
            have h1 := ownsAt.lt (ownsAt.of_row HV4.out) b e.symm
            omega)
          have HX5 : Hid (HoldV w3 w.heap.size _ 29) := hide ((hkeep _ (by omega)).trans HX4.out)
          have HRA5 : Hid (HoldV w3 (w.heap.size + 1) _ 29) := hide ((hkeep _ (by omega)).trans HRA4.out)
          have HRB5 : Hid (HoldV w3 (w.heap.size + 2) _ 39) := hide ((hkeep _ (by omega)).trans HRB4.out)
          have HN5 : Hid (HoldV w3 NB _ 39) := hide ((hkeep _ (by omega)).trans HN4.out)
          have HOO5 : Hid (HoldV w3 O _ 29) := hide ((hkeep _ (Nat.le_refl _)).trans HO4.out)
          have HB5 : Hid (Below w.heap.size w w3) := hide (HB4.out.trans ⟨hgrow.os, hgrow.tape, hgrow.output, hgrow.size, fun b hb => hkeep b (by omega)⟩)
          have hg6 : w3.grownBy (w3.setCell ⟨O, 2, none⟩ (.slice (some ⟨gt, 0, none⟩) (m + 1) nt)) (some O) := gr_set (grown_reflp _ _) 2 _
          have HX6 := hide (hv_gr HX5.out hg6 (by omega)); have HRA6 := hide (hv_gr HRA5.out hg6 (by omega)); have HRB6 := hide (hv_gr HRB5.out hg6 (by omega)); have HN6 := hide (hv_gr HN5.out hg6 (by omega))
          have HO6 := hide (hv_set HOO5.out 2 (.slice (some ⟨gt, 0, none⟩) (m + 1) nt))
          have HV6 := hide (row_gr HO5.out hg6 (by omega))
          have HB6 := hide (below_gr HB5.out hg6 HB5.out.size (by omega))
          have o3 := HOO5.out.cell 2 _ rfl; have o3f := HOO5.out.frozen
          clear hkeep hgrow hown' hlies hg6 HO5 HX5 HRA5 HRB5 HN5 HOO5 HB5 HV4 HX4 HRA4 HRB4 HN4 HO4 HB4 HPL hsa o2 o2' of of' r0 r1 r2 r3 r4 r5
          go_wp2_with fail
          exact ⟨⟨i + 1, m + 1, _, by omega, by go_num, HV6, HM5, HX6, HRA6, HRB6, hide (by rw [HG.out, HS2.out]; exact HN6.out), HO6, HB6⟩, by simp [intOf]; omega⟩
        | false =>
          have CW := hide (l15Within_walk y0 x1 x2 x3 false x5 ack x bz m nz aq nq cq zs W4 HNZ.out (HZ0.out.below HB3.out (Nat.le_refl _)) HMZ.out)
          have r0 := HP3.out.cell 0 _ rfl; have r1 := HP3.out.cell 1 _ rfl; have r2 := HP3.out.cell 2 _ rfl; have r3 := HP3.out.cell 3 _ rfl; have r4 := HP3.out.cell 4 _ rfl; have r5 := HP3.out.cell 5 _ rfl
          have o0 := HO3.out.cell 0 _ rfl; have o1 := HO3.out.cell 1 _ rfl; have o2 := HO3.out.cell 2 _ rfl
          go_wp2_with fail
          refine CW.out.mono ?_
          rintro e wj ⟨rfl, hw⟩
          clear CW r0 r1 r2 r3 r4 r5 o0 o1 o2
          have HX3' := hide (HX3.out.next hw); have HRA3' := hide (HRA3.out.next hw); have HRB3' := hide (HRB3.out.next hw); have HN3' := hide (HN3.out.next hw); have HO3' := hide (HO3.out.next hw); have HP3' := hide (HP3.out.next hw); have HV3' := hide (HV3.out.next hw); have HB3' : Hid (Below w.heap.size w wj) := hide (HB3.out.trans (hw.mono HB3.out.size))
          clear hw HX3 HRA3 HRB3 HN3 HO3 HP3 HV3 HB3
          cases hwi : wiB ack x y0 x1 zs with
          | false =>
            have HNW : nwB ack x zs ⟨x0, x1, x2, x3, false, x5⟩ = false := by show (!false && wiB ack x (max x0 ack) x1 zs) = false; rw [← HY.out, hwi]; rfl
            have HF : Hid (ackF ack x zs ⟨x0, x1, x2, x3, false, x5⟩ = ⟨y0, x1, x2, x3, false, x5⟩) := hide ((if_neg (fun h => by rw [HNW] at h; cases h)).trans (by rw [HY.out]))
            have HG : Hid (ackG ack x zs (os.take (i + 1)) = g) := hide (by
              have h1 : ackG ack x zs [⟨x0, x1, x2, x3, false, x5⟩] = 0 := by
                show (if ack < x1 ∧ nwB ack x zs ⟨x0, x1, x2, x3, false, x5⟩ = true then x1 - max x0 ack else 0) + 0 = _
                rw [if_neg (fun h => by rw [HNW] at h; cases h.2)]
                rfl
              rw [HTG.out, h1, Int.add_zero])
            clear HTG HNW
            clear hwi
            have HX3 := HX3'; have HRA3 := HRA3'; have HRB3 := HRB3'; have HN3 := HN3'; have HO3 := HO3'; have HP3 := HP3'; have HV3 := HV3'; have HB3 := HB3'
            clear HX3' HRA3' HRB3' HN3' HO3' HP3' HV3' HB3'
            go_upto_region 17 with fail
            have r0 := HP3.out.cell 0 (.int .i64 y0) rfl; have r1 := HP3.out.cell 1 (.int .i64 x1) rfl; have r2 := HP3.out.cell 2 (.int .i64 x2) rfl; have r3 := HP3.out.cell 3 (.int .i64 x3) rfl; have r4 := HP3.out.cell 4 (.bool false) rfl; have r5 := HP3.out.cell 5 (.bool x5) rfl
            have o2 := HO3.out.cell 2 _ rfl; have of := HO3.out.frozen
            have hOj : O < wj.heap.size := HO3.out.lt
            have hal := (Below.refl wj.heap.size wj).alloc (Nat.le_refl _) (.cells #[.int .i64 y0, .int .i64 x1, .int .i64 x2, .int .i64 x3, .bool false, .bool x5] 48)
            have HPL : Hid (HoldV (wj.alloc (.cells #[.int .i64 y0, .int .i64 x1, .int .i64 x2, .int .i64 x3, .bool false, .bool x5] 48)) wj.heap.size _ 48) := hide (hv_new wj #[.int .i64 y0, .int .i64 x1, .int .i64 x2, .int .i64 x3, .bool false, .bool x5] 48)
            have HV4 := hide (HV3.out.next hal); have HX4 := hide (HX3.out.next hal); have HRA4 := hide (HRA3.out.next hal); have HRB4 := hide (HRB3.out.next hal); have HN4 := hide (HN3.out.next hal); have HO4 := hide (HO3.out.next hal); have HB4 : Hid (Below w.heap.size w _) := hide (HB3.out.trans (hal.mono HB3.out.size))
            have o2' := HO4.out.cell 2 _ rfl; have of' := HO4.out.frozen
            have hsa : (wj.alloc (.cells #[.int .i64 y0, .int .i64 x1, .int .i64 x2, .int .i64 x3, .bool false, .bool x5] 48)).heap.size = wj.heap.size + 1 := World.size_alloc _ _
            clear hal HV3 HX3 HRA3 HRB3 HN3 HO3 HP3 HB3
            go_wp2_with (at_builtin; refine wpList_append_lies _ rfl _ _ 27 rfl (O + 1) 48 ip _ 6 40 Try.underlying27 HI.out HI0.out HI1.out HI2.out rfl (by decide) (.slice bz m nz) m ((ackL ack x zs (os.take i)).flatMap valPiece) rfl HV4.out ⟨wj.heap.size, 0, none⟩ 1 1 (valPiece ⟨y0, x1, x2, x3, false, x5⟩) rfl rfl (pc_cells HPL.out) (val_one1 _) (by omega) (by unfold maxLen; omega) (by omega) (by omega) _ rfl ?_)
            intro gt nt w3 hown' hgrow hlies _
            have HO5 : Hid (RowP w3 (O + 1) (.slice (some ⟨gt, 0, none⟩) (m + 1) nt) (m + 1) (ackL ack x zs (os.take (i + 1)))) := hide (by rw [HK.out, HF.out]; unfold RowP; rw [List.flatMap_append]; simpa using hown')
            have HM5 : Hid ((ackL ack x zs (os.take (i + 1))).length = m + 1) := hide (by rw [HK.out, List.length_append, HM.out]; rfl)
            have hkeep : ∀ b, b ≤ O → w3.heap[b]? = (wj.alloc (.cells #[.int .i64 y0, .int .i64 x1, .int .i64 x2, .int .i64 x3, .bool false, .bool x5] 48)).heap[b]? := fun b hb => hgrow.block b (by omega) (fun e => by
              have h1 := ownsAt.lt (ownsAt.of_row HV4.out) b e.symm
              omega)
            have HX5 : Hid (HoldV w3 w.heap.size _ 29) := hide ((hkeep _ (by omega)).trans HX4.out)
            have HRA5 : Hid (HoldV w3 (w.heap.size + 1) _ 29) := hide ((hkeep _ (by omega)).trans HRA4.out)
            have HRB5 : Hid (HoldV w3 (w.heap.size + 2) _ 39) := hide ((hkeep _ (by omega)).trans HRB4.out)
            have HN5 : Hid (HoldV w3 NB _ 39) := hide ((hkeep _ (by omega)).trans HN4.out)
            have HOO5 : Hid (HoldV w3 O _ 29) := hide ((hkeep _ (Nat.le_refl _)).trans HO4.out)
            have HB5 : Hid (Below w.heap.size w w3) := hide (HB4.out.trans ⟨hgrow.os, hgrow.tape, hgrow.output, hgrow.size, fun b hb => hkeep b (by omega)⟩)
            have hg6 : w3.grownBy (w3.setCell ⟨O, 2, none⟩ (.slice (some ⟨gt, 0, none⟩) (m + 1) nt)) (some O) := gr_set (grown_reflp _ _) 2 _
            have HX6 := hide (hv_gr HX5.out hg6 (by omega)); have HRA6 := hide (hv_gr HRA5.out hg6 (by omega)); have HRB6 := hide (hv_gr HRB5.out hg6 (by omega)); have HN6 := hide (hv_gr HN5.out hg6 (by omega))
            have HO6 := hide (hv_set HOO5.out 2 (.slice (some ⟨gt, 0, none⟩) (m + 1) nt))
            have HV6 := hide (row_gr HO5.out hg6 (by omega))
            have HB6 := hide (below_gr HB5.out hg6 HB5.out.size (by omega))
            have o3 := HOO5.out.cell 2 _ rfl; have o3f := HOO5.out.frozen
            clear hkeep hgrow hown' hlies hg6 HO5 HX5 HRA5 HRB5 HN5 HOO5 HB5 HV4 HX4 HRA4 HRB4 HN4 HO4 HB4 HPL hsa o2 o2' of of' r0 r1 r2 r3 r4 r5
            go_wp2_with fail
            exact ⟨⟨i + 1, m + 1, _, by omega, by go_num, HV6, HM5, HX6, HRA6, HRB6, hide (by rw [HG.out, HS2.out]; exact HN6.out), HO6, HB6⟩, by simp [intOf]; omega⟩
          | true =>
            have HNW : nwB ack x zs ⟨x0, x1, x2, x3, false, x5⟩ = true := by show (!false && wiB ack x (max x0 ack) x1 zs) = true; rw [← HY.out, hwi]; rfl
            have HF : Hid (ackF ack x zs ⟨x0, x1, x2, x3, false, x5⟩ = ⟨y0, x1, x2, x3, true, false⟩) := hide ((if_pos HNW).trans (by rw [HY.out]))
            have HG : Hid (ackG ack x zs (os.take (i + 1)) = g + x1 - y0) := hide (by
              have h1 : ackG ack x zs [⟨x0, x1, x2, x3, false, x5⟩] = x1 - y0 := by
                show (if ack < x1 ∧ nwB ack x zs ⟨x0, x1, x2, x3, false, x5⟩ = true then x1 - max x0 ack else 0) + 0 = _
                rw [if_pos ⟨by omega, HNW⟩, ← HY.out, Int.add_zero]
              rw [HTG.out, h1]
              omega)
            clear HTG HNW hwi
            have r4 := HP3'.out.cell 4 _ rfl; have r0 := HP3'.out.cell 0 _ rfl; have r1 := HP3'.out.cell 1 _ rfl; have r5 := HP3'.out.cell 5 _ rfl; have pf := HP3'.out.frozen
            have n1 := HN3'.out.cell 1 _ rfl; have nf := HN3'.out.frozen
            have hPO : O < PB := hOk
            have e1 : IntKind.i64.wrap (g + x1) = g + x1 := by rw [IntKind.wrap_i64]; omega
            have e2 : IntKind.i64.wrap (g + x1 - y0) = g + x1 - y0 := by rw [IntKind.wrap_i64]; omega
            have hg : wj.grownBy ((wj.setCell ⟨PB, 4, none⟩ (.bool true)).setCell ⟨PB, 5, none⟩ (.bool false)) (some PB) := gr_set (gr_set (grown_reflp _ _) 4 _) 5 _
            have HP4 : Hid (HoldV ((wj.setCell ⟨PB, 4, none⟩ (.bool true)).setCell ⟨PB, 5, none⟩ (.bool false)) PB #[.int .i64 y0, .int .i64 x1, .int .i64 x2, .int .i64 x3, .bool true, .bool false] 48) := hide (hv_set (hv_set HP3'.out 4 (.bool true)) 5 (.bool false))
            have hgo : ∀ b, b < PB → b ≠ PB := fun b h e => by omega
            have HX4 := hide (hv_gr HX3'.out hg (by omega)); have HRA4 := hide (hv_gr HRA3'.out hg (by omega)); have HRB4 := hide (hv_gr HRB3'.out hg (by omega)); have HN4 := hide (hv_gr HN3'.out hg (by omega)); have HO4 := hide (hv_gr HO3'.out hg (by omega))
            have HV4 := hide (row_gr2 HV3'.out hg (fun b hb e => by have := HOB.out b hb; omega))
            have HB4 := hide (below_gr HB3'.out hg HB3'.out.size (by omega))
            clear hg hgo
            have hg : ((wj.setCell ⟨PB, 4, none⟩ (.bool true)).setCell ⟨PB, 5, none⟩ (.bool false)).grownBy (((wj.setCell ⟨PB, 4, none⟩ (.bool true)).setCell ⟨PB, 5, none⟩ (.bool false)).setCell ⟨NB, 1, none⟩ (.int .i64 (g + x1 - y0))) (some NB) := gr_set (grown_reflp _ _) 1 _
            have HX3 := hide (hv_gr HX4.out hg (by omega)); have HRA3 := hide (hv_gr HRA4.out hg (by omega)); have HRB3 := hide (hv_gr HRB4.out hg (by omega)); have HO3 := hide (hv_gr HO4.out hg (by omega)); have HP3 := hide (hv_gr HP4.out hg (by omega))
            have HN3 := hide (hv_set HN4.out 1 (.int .i64 (g + x1 - y0)))
            have HV3 := hide (row_gr HV4.out hg (by omega))
            have HB3 := hide (below_gr HB4.out hg HB4.out.size (by omega))
            clear hg HX4 HRA4 HRB4 HN4 HO4 HP4 HV4 HB4 HX3' HRA3' HRB3' HN3' HO3' HP3' HV3' HB3'
            go_upto_region 17 with fail
            clear r4 r0 r1 r5 pf n1 nf
            generalize ((wj.setCell ⟨PB, 4, none⟩ (.bool true)).setCell ⟨PB, 5, none⟩ (.bool false)).setCell ⟨NB, 1, none⟩ (.int .i64 (g + x1 - y0)) = W4' at *
            have r0 := HP3.out.cell 0 (.int .i64 y0) rfl; have r1 := HP3.out.cell 1 (.int .i64 x1) rfl; have r2 := HP3.out.cell 2 (.int .i64 x2) rfl; have r3 := HP3.out.cell 3 (.int .i64 x3) rfl; have r4 := HP3.out.cell 4 (.bool true) rfl; have r5 := HP3.out.cell 5 (.bool false) rfl
            have o2 := HO3.out.cell 2 _ rfl; have of := HO3.out.frozen
            have hOj : O < W4'.heap.size := HO3.out.lt
            have hal := (Below.refl W4'.heap.size W4').alloc (Nat.le_refl _) (.cells #[.int .i64 y0, .int .i64 x1, .int .i64 x2, .int .i64 x3, .bool true, .bool false] 48)
            have HPL : Hid (HoldV (W4'.alloc (.cells #[.int .i64 y0, .int .i64 x1, .int .i64 x2, .int .i64 x3, .bool true, .bool false] 48)) W4'.heap.size _ 48) := hide (hv_new W4' #[.int .i64 y0, .int .i64 x1, .int .i64 x2, .int .i64 x3, .bool true, .bool false] 48)
            have HV4 := hide (HV3.out.next hal); have HX4 := hide (HX3.out.next hal); have HRA4 := hide (HRA3.out.next hal); have HRB4 := hide (HRB3.out.next hal); have HN4 := hide (HN3.out.next hal); have HO4 := hide (HO3.out.next hal); have HB4 : Hid (Below w.heap.size w _) := hide (HB3.out.trans (hal.mono HB3.out.size))
            have o2' := HO4.out.cell 2 _ rfl; have of' := HO4.out.frozen
            have hsa : (W4'.alloc (.cells #[.int .i64 y0, .int .i64 x1, .int .i64 x2, .int .i64 x3, .bool true, .bool false] 48)).heap.size = W4'.heap.size + 1 := World.size_alloc _ _
            clear hal HV3 HX3 HRA3 HRB3 HN3 HO3 HP3 HB3
            go_wp2_with (at_builtin; refine wpList_append_lies _ rfl _ _ 27 rfl (O + 1) 48 ip _ 6 40 Try.underlying27 HI.out HI0.out HI1.out HI2.out rfl (by decide) (.slice bz m nz) m ((ackL ack x zs (os.take i)).flatMap valPiece) rfl HV4.out ⟨W4'.heap.size, 0, none⟩ 1 1 (valPiece ⟨y0, x1, x2, x3, true, false⟩) rfl rfl (pc_cells HPL.out) (val_one1 _) (by omega) (by unfold maxLen; omega) (by omega) (by omega) _ rfl ?_)
            intro gt nt w3 hown' hgrow hlies _
            have HO5 : Hid (RowP w3 (O + 1) (.slice (some ⟨gt, 0, none⟩) (m + 1) nt) (m + 1) (ackL ack x zs (os.take (i + 1)))) := hide (by rw [HK.out, HF.out]; unfold RowP; rw [List.flatMap_append]; simpa using hown')
            have HM5 : Hid ((ackL ack x zs (os.take (i + 1))).length = m + 1) := hide (by rw [HK.out, List.length_append, HM.out]; rfl)
            have hkeep : ∀ b, b ≤ O → w3.heap[b]? = (W4'.alloc (.cells #[.int .i64 y0, .int .i64 x1, .int .i64 x2, .int .i64 x3, .bool true, .bool false] 48)).heap[b]? := fun b hb => hgrow.block b (by omega) (fun e => by
              have h1 := ownsAt.lt (ownsAt.of_row HV4.out) b e.symm
              omega)
            have HX5 : Hid (HoldV w3 w.heap.size _ 29) := hide ((hkeep _ (by omega)).trans HX4.out)
            have HRA5 : Hid (HoldV w3 (w.heap.size + 1) _ 29) := hide ((hkeep _ (by omega)).trans HRA4.out)
            have HRB5 : Hid (HoldV w3 (w.heap.size + 2) _ 39) := hide ((hkeep _ (by omega)).trans HRB4.out)
            have HN5 : Hid (HoldV w3 NB _ 39) := hide ((hkeep _ (by omega)).trans HN4.out)
            have HOO5 : Hid (HoldV w3 O _ 29) := hide ((hkeep _ (Nat.le_refl _)).trans HO4.out)
            have HB5 : Hid (Below w.heap.size w w3) := hide (HB4.out.trans ⟨hgrow.os, hgrow.tape, hgrow.output, hgrow.size, fun b hb => hkeep b (by omega)⟩)
            have hg6 : w3.grownBy (w3.setCell ⟨O, 2, none⟩ (.slice (some ⟨gt, 0, none⟩) (m + 1) nt)) (some O) := gr_set (grown_reflp _ _) 2 _
            have HX6 := hide (hv_gr HX5.out hg6 (by omega)); have HRA6 := hide (hv_gr HRA5.out hg6 (by omega)); have HRB6 := hide (hv_gr HRB5.out hg6 (by omega)); have HN6 := hide (hv_gr HN5.out hg6 (by omega))
            have HO6 := hide (hv_set HOO5.out 2 (.slice (some ⟨gt, 0, none⟩) (m + 1) nt))
            have HV6 := hide (row_gr HO5.out hg6 (by omega))
            have HB6 := hide (below_gr HB5.out hg6 HB5.out.size (by omega))
            have o3 := HOO5.out.cell 2 _ rfl; have o3f := HOO5.out.frozen
            clear hkeep hgrow hown' hlies hg6 HO5 HX5 HRA5 HRB5 HN5 HOO5 HB5 HV4 HX4 HRA4 HRB4 HN4 HO4 HB4 HPL hsa o2 o2' of of' r0 r1 r2 r3 r4 r5
            go_wp2_with fail
            exact ⟨⟨i + 1, m + 1, _, by omega, by go_num, HV6, HM5, HX6, HRA6, HRB6, hide (by rw [HG.out, HS2.out]; exact HN6.out), HO6, HB6⟩, by simp [intOf]; omega⟩
    · have hin : i = n := by omega
      have HTK : Hid (os.take i = os) := hide (List.take_of_length_le (by rw [HN.out, hin]; exact Nat.le_refl _))
      have HFL : Hid (RowP wk (O + 1) (.slice bz m nz) m (ackL ack x zs os)) := hide (by have h := HV.out; rw [HTK.out] at h; exact h)
      have HFM : Hid ((ackL ack x zs os).length = m) := hide (by have h := HM.out; rw [HTK.out] at h; exact h)
      have HFN : Hid (HoldV wk NB #[.int .i64 (ack - u), .int .i64 (ackG ack x zs os), .int .i64 (ackS ack os)] 39) := hide (by have h := HNB.out; rw [HTK.out] at h; exact h)
      clear HV HM HNB HTK
      have o0 := HO.out.cell 0 _ rfl; have o1 := HO.out.cell 1 _ rfl; have o2 := HO.out.cell 2 _ rfl
      have n0 := HFN.out.cell 0 _ rfl; have n1 := HFN.out.cell 1 _ rfl; have n2 := HFN.out.cell 2 _ rfl
      have HRB' : Hid (HoldV wk (w.heap.size + 1 + 1) #[.int .i64 0, .int .i64 0, .int .i64 0] 39) := hide HRB.out
      obtain ⟨RA, hRA⟩ : ∃ RA, RA = w.heap.size + 1 := ⟨_, rfl⟩
      obtain ⟨RB, hRB⟩ : ∃ RB, RB = RA + 1 := ⟨_, rfl⟩
      have hOw : RA < O + 1 := by omega
      have hOw2 : RB < O + 1 := by omega
      have hra : w.heap.size ≤ RA := by omega
      have hrb : w.heap.size ≤ RB := by omega
      have z1 : RA ≠ RB := by omega
      have z2 : NB ≠ RA := by omega
      have z3 : NB ≠ RB := by omega
      have z4 : O ≠ RA := by omega
      have z5 : O ≠ RB := by omega
      rw [← hRA, ← hRB] at HRB'
      rw [← hRA] at HRA
      have ra0 := HRA.out.cell 0 _ rfl; have ra1 := HRA.out.cell 1 _ rfl; have ra2 := HRA.out.cell 2 _ rfl; have raf := HRA.out.frozen
      have rb0 := HRB'.out.cell 0 _ rfl; have rb1 := HRB'.out.cell 1 _ rfl; have rb2 := HRB'.out.cell 2 _ rfl; have rbf := HRB'.out.frozen
      clear HRB
      go_upto_region 18 with fail
      simp only [← hRA]
      simp only [← hRB]
      clear k2 hRA hRB
      have raf0 : wk.frozen? ⟨RA, 0, none⟩ = false := raf 0
      have raf1 : wk.frozen? ⟨RA, 1, none⟩ = false := raf 1
      have raf2 : wk.frozen? ⟨RA, 2, none⟩ = false := raf 2
      have rbf0 : wk.frozen? ⟨RB, 0, none⟩ = false := rbf 0
      have rbf1 : wk.frozen? ⟨RB, 1, none⟩ = false := rbf 1
      have rbf2 : wk.frozen? ⟨RB, 2, none⟩ = false := rbf 2
      go_region
      have hgA : wk.grownBy (((wk.setCell ⟨RA, 0, none⟩ (.int .i64 ack)).setCell ⟨RA, 1, none⟩ (.int .i64 x)).setCell ⟨RA, 2, none⟩ (.slice bz m nz)) (some RA) := gr_set (gr_set (gr_set (grown_reflp _ _) 0 _) 1 _) 2 _
      have HA1 := hide (row_gr HFL.out hgA (by omega))
      have HA2 := hide (below_gr HB.out hgA HB.out.size hra)
      have HA3 := hide (hv_set (hv_set (hv_set HRA.out 0 (.int .i64 ack)) 1 (.int .i64 x)) 2 (.slice bz m nz))
      have HA4 := hide (hv_gr HRB'.out hgA (fun e => z1 e.symm))
      clear hgA
      generalize hW5 : ((wk.setCell ⟨RA, 0, none⟩ (.int .i64 ack)).setCell ⟨RA, 1, none⟩ (.int .i64 x)).setCell ⟨RA, 2, none⟩ (.slice bz m nz) = W5 at *
      clear hW5 ra0 ra1 ra2 rb0 rb1 rb2 o0 o1 o2 n0 n1 n2 raf rbf raf0 raf1 raf2 rbf0 rbf1 rbf2
      have hgB : W5.grownBy (((W5.setCell ⟨RB, 0, none⟩ (.int .i64 (ack - u))).setCell ⟨RB, 1, none⟩ (.int .i64 (ackG ack x zs os))).setCell ⟨RB, 2, none⟩ (.int .i64 (ackS ack os))) (some RB) := gr_set (gr_set (gr_set (grown_reflp _ _) 0 _) 1 _) 2 _
      have HC1 := hide (row_gr HA1.out hgB (by omega))
      have HC2 := hide (below_gr HA2.out hgB HA2.out.size hrb)
      have HC3 := hide (hv_gr HA3.out hgB z1)
      have HC4 := hide (hv_set (hv_set (hv_set HA4.out 0 (.int .i64 (ack - u))) 1 (.int .i64 (ackG ack x zs os))) 2 (.int .i64 (ackS ack os)))
      clear hgB HA1 HA2 HA3 HA4
      generalize ((W5.setCell ⟨RB, 0, none⟩ (.int .i64 (ack - u))).setCell ⟨RB, 1, none⟩ (.int .i64 (ackG ack x zs os))).setCell ⟨RB, 2, none⟩ (.int .i64 (ackS ack os)) = W6 at *
      have hdr := (Below.refl W6.heap.size W6).drew
      have HD1 := hide (HC1.out.next hdr)
      have HD2 : Hid (Below w.heap.size w W6.drew) := hide HC2.out.drew
      have a0 := (HC3.out.next hdr).cell 0 (.int .i64 ack) rfl; have a1 := (HC3.out.next hdr).cell 1 (.int .i64 x) rfl; have a2 := (HC3.out.next hdr).cell 2 (.slice bz m nz) rfl
      have b0 := (HC4.out.next hdr).cell 0 (.int .i64 (ack - u)) rfl; have b1 := (HC4.out.next hdr).cell 1 (.int .i64 (ackG ack x zs os)) rfl; have b2 := (HC4.out.next hdr).cell 2 (.int .i64 (ackS ack os)) rfl
      clear hdr HC1 HC2 HC3 HC4
      generalize W6.drew = W7 at *
      go_wp2_with fail
      exact bodyPost_ret (v := .tuple #[.agg #[.int .i64 ack, .int .i64 x, .slice bz m nz], .agg #[.int .i64 (ack - u), .int .i64 (ackG ack x zs os), .int .i64 (ackS ack os)], .int .i64 0]) (by simp [results, Try.results55, go_sem, a0, a1, a2, b0, b1, b2]) rfl ⟨_, rfl, ownP_mono (row_own HD1.out HFM.out) (by omega), HD2.out⟩
set_option maxRecDepth 100000
theorem still_of_quiet {P : Program} {ops : Array Oper} {w : World} {Q : Act → Prop} : ∀ (l : List Oper) (a : Act), wpQuiet P ops (fun w' => w' = w) Q l a → wpStill P ops w Q l a
  | [], _, h => h
  | o :: rest, a, h => by
    unfold wpQuiet at h
    unfold wpStill
    by_cases hw : Region.wanted o (yielded ops a.tmps) = true
    · rw [if_pos hw] at h ⊢
      obtain ⟨v, h1, h2⟩ := h
      have h3 := h1 w rfl
      have h4 := still_of_quiet rest _ h2
      unfold Oper.quietAt at h3
      unfold Oper.still
      revert h3
      generalize (execOp a.eval o).run P w = R
      intro h3
      unfold Oper.quietUpon at h3
      unfold Oper.stillUpon
      split at h3
      · obtain ⟨rfl, rfl⟩ := h3
        exact ⟨rfl, h4⟩
      · obtain ⟨rfl, rfl⟩ := h3
        exact ⟨rfl, h4⟩
      · obtain ⟨rfl, hc⟩ := h3
        exact ⟨rfl, v, hc, h4⟩
      · exact h3.elim
    · rw [if_neg hw] at h ⊢
      exact still_of_quiet rest _ h
/-- A region that only looks, and then does what has waited for all of it. -/
theorem region_tail {P : Program} {id : Nat} {Q : Exit → Act → World → Prop} {a : Act} {w : World} {l : List Oper} (n : Nat) (hm : P.follows .mixedOrders = true) (hB : Region.lexTailB .any l.toArray n = true)
    (h : wpQuiet P l.toArray (fun w' => w' = w.drew) (fun a' => wpList P l.toArray Q (l.drop n) a' w.drew) (l.take n) a) : (Code.region id l.toArray true).wp P Q a w := wp_region_still_tail n hm hB (still_of_quiet _ _ h)

theorem isPieceSize_walk (n : Int) (w : World) : Calls Try.prog 25 #[.int .i64 n] w fun e w' => e = .returned (.bool (inB n 1 65535)) ∧ w' = w := by
  by_cases h : 1 ≤ n ∧ n ≤ 65535
  · rw [inB_iff.2 h]
    obtain ⟨h1, h2⟩ := h
    go_enter Try.func25, Try.ntmps25
    go_wp2
    go_ret
    exact ⟨rfl, rfl⟩
  · rw [show inB n 1 65535 = false from decide_eq_false h]
    by_cases h1 : 1 ≤ n
    · have h2 : ¬ n ≤ 65535 := fun h2 => h ⟨h1, h2⟩
      clear h
      go_enter Try.func25, Try.ntmps25
      go_wp2
      go_ret
      exact ⟨rfl, rfl⟩
    · clear h
      go_enter Try.func25, Try.ntmps25
      go_wp2
      go_ret
      exact ⟨rfl, rfl⟩
/-- What is sent and when are valid. -/
def sdOK (k t : Int) : Prop := (1 ≤ k ∧ k ≤ 65535) ∧ (0 ≤ t ∧ t ≤ 1000000000)
instance (k t : Int) : Decidable (sdOK k t) := by unfold sdOK; infer_instance
/-- There is no room. -/
def sdFull (x k : Int) (os : List PieceM) : Prop := os.length = 4096 ∨ 1099511627776 < x + k
instance (x k : Int) (os : List PieceM) : Decidable (sdFull x k os) := by unfold sdFull; infer_instance
abbrev newP (x k t : Int) : PieceM := ⟨x, x + k, t, 1, false, false⟩
theorem DL.setx {w : World} {B L : Nat} {u x : Int} {ns : List (Nat × PieceM)} (h : DL w B L u x ns) (y : Int) : DL (w.setCell ⟨L, 1, none⟩ (.int .i64 y)) B L u y ns := by
  refine ⟨hv_set h.head 1 _, h.seg.frame (fun b hb => heap_setCell_other _ _ b _ (fun e => ?_)), h.nd, h.lo⟩
  have h1 := (List.nodup_cons.1 h.nd).1
  exact h1 (by rw [show L = b from e.symm]; exact hb)
set_option maxHeartbeats 8000000 in
theorem send_full (B L : Nat) (u x k t : Int) (ns : List (Nat × PieceM)) (w : World) (h : DL w B L u x ns) (hB : B ≤ w.heap.size) (hok : bOK u x (ns.map Prod.snd)) (hk : 1 ≤ k ∧ k ≤ 65535) (hf : sdFull x k (ns.map Prod.snd)) :
    Calls Try.prog 27 #[.pointer (some ⟨L, 0, none⟩), .int .i64 k, .int .i64 t] w fun e w' => e = .returned (.bool false) ∧ w' = w := by
  obtain ⟨k1, k2⟩ := hk
  have l1 := h.head.cell 1 _ rfl
  have l2 := h.head.cell 2 _ rfl
  have hx0 : 0 ≤ x := by have := chk_le _ _ _ hok.2.2.2; have := hok.1; omega
  have hx1 := hok.2.1
  by_cases hc : ns.length = 4096
  · have l2' : w.cell? ⟨L, 2, none⟩ = some (.int .i64 ((ns.length : Nat) : Int)) := l2
    rw [hc] at l2'
    replace l2' : w.cell? ⟨L, 2, none⟩ = some (.int .i64 4096) := l2'
    clear l2 h hok hf
    go_enter Try.func27, Try.ntmps27
    go_wp2_with fail
    go_ret
    exact ⟨rfl, rfl⟩
  · have hf2 : 1099511627776 < x + k := by rcases hf with h1 | h1; exact absurd (by rw [List.length_map] at h1; exact h1) hc; exact h1
    have hc2 : ((ns.length : Int) == 4096) = false := by rw [beq_eq_false_iff_ne]; omega
    clear h hok hf hc
    go_enter Try.func27, Try.ntmps27
    go_wp2_with fail
    go_ret
    exact ⟨rfl, rfl⟩
set_option maxHeartbeats 8000000 in
theorem send_yes (B L : Nat) (u x k t : Int) (ns : List (Nat × PieceM)) (w : World) (h : DL w B L u x ns) (hB : B ≤ w.heap.size) (hok : bOK u x (ns.map Prod.snd)) (hk : 1 ≤ k ∧ k ≤ 65535) (hf : ¬ sdFull x k (ns.map Prod.snd)) :
    Calls Try.prog 27 #[.pointer (some ⟨L, 0, none⟩), .int .i64 k, .int .i64 t] w fun e w' => ∃ ns2, e = .returned (.bool true) ∧ DL w' B L u (x + k) ns2 ∧ ns2.map Prod.snd = ns.map Prod.snd ++ [newP x k t] ∧ Below B w w' := by
  obtain ⟨k1, k2⟩ := hk
  have l1 := h.head.cell 1 _ rfl
  have l2 := h.head.cell 2 _ rfl
  have l4 := h.head.cell 4 _ rfl
  have hx0 : 0 ≤ x := by have := chk_le _ _ _ hok.2.2.2; have := hok.1; omega
  have hx1 := hok.2.1
  have hlen : ns.length ≤ 4096 := by have := hok.2.2.1; rw [List.length_map] at this; exact this
  have hf1 : ¬ ns.length = 4096 := fun e => hf (.inl (by rw [List.length_map]; exact e))
  have hf2 : ¬ 1099511627776 < x + k := fun e => hf (.inr e)
  have hc2 : ((ns.length : Int) == 4096) = false := by rw [beq_eq_false_iff_ne]; omega
  have HLB := hide (h.lo L (by simp))
  have CP := hide (put_walk B L u x ns [] (newP x k t) w.drew (by rw [List.append_nil]; exact h.drew) hB (by rw [List.append_nil]; omega))
  clear h hok hf hf1
  go_enter Try.func27, Try.ntmps27
  go_upto_region 3 with fail
  have l1' : w.drew.cell? ⟨L, 1, none⟩ = some (.int .i64 x) := l1
  have l4' : w.drew.cell? ⟨L, 4, none⟩ = some (ptO (lstO none ns)) := l4
  clear l1 l2 l4
  refine region_tail 17 (by kernel_rfl) (by kernel_rfl) ?_
  obtain ⟨V, hVe⟩ : ∃ V, V = w.drew := ⟨_, rfl⟩
  have HBV : Hid (∀ W, Below B V W → Below B w W) := hide (fun W hW => below_drew (by rw [← hVe]; exact hW))
  rw [← hVe] at CP l1' l4' ⊢
  clear hVe
  simp only [List.take_succ_cons, List.take_zero, List.drop_succ_cons, List.drop_zero]
  repeat (first | go_big_quiet_skip | (go_big_quiet_want; go_big_quiet_op; go_big_quiet_on))
  refine wpQuiet_nil ?_
  clear l1' l4'
  go_wp2_with (go_at_call 40; refine CP.out.mono ?_; rintro e w3 ⟨rfl, hD3, hb3, hs3⟩; have l1 := hD3.head.cell 1 _ rfl; have lf := hD3.head.frozen)
  go_ret
  refine ⟨_, rfl, hD3.setx (x + k), by simp, (HBV.out _ hb3).setCell (p := ⟨L, 1, none⟩) HLB.out _⟩
set_option maxRecDepth 100000
/-- Blocks stay but for some. -/
def Fr (S : List Nat) (w w' : World) : Prop := w.heap.size ≤ w'.heap.size ∧ ∀ b, b < w.heap.size → b ∉ S → w'.heap[b]? = w.heap[b]?
theorem Fr.refl (S : List Nat) (w : World) : Fr S w w := ⟨Nat.le_refl _, fun _ _ _ => rfl⟩
theorem Fr.trans {S : List Nat} {w w' w2 : World} (h : Fr S w w') (k : Fr S w' w2) : Fr S w w2 := ⟨Nat.le_trans h.1 k.1, fun b hb hn => (k.2 b (Nat.lt_of_lt_of_le hb h.1) hn).trans (h.2 b hb hn)⟩
theorem Fr.below {S : List Nat} {w w' : World} (h : Below w.heap.size w w') : Fr S w w' := ⟨h.size, fun b hb _ => h.block b hb⟩
theorem Fr.grown {S : List Nat} {w w' : World} {c : Nat} (h : w.grownBy w' (some c)) (hc : c ∈ S) : Fr S w w' := ⟨h.size, fun b hb hn => h.block b hb (fun e => hn (by have e2 : c = b := (Option.some.inj e).symm; first | exact e2 ▸ hc | exact e2.symm ▸ hc))⟩
theorem Fr.set {S : List Nat} {w w' : World} {c : Nat} (h : Fr S w w') (hc : c ∈ S) (i : Nat) (y : Value) : Fr S w (w'.setCell ⟨c, i, none⟩ y) := ⟨by rw [World.size_setCell]; exact h.1, fun b hb hn => (heap_setCell_other _ ⟨c, i, none⟩ b y (fun e => hn (by rw [show b = c from e]; exact hc))).trans (h.2 b hb hn)⟩
theorem Fr.mono {S T : List Nat} {w w' : World} (h : Fr S w w') (hs : ∀ b ∈ S, b ∈ T) : Fr T w w' := ⟨h.1, fun b hb hn => h.2 b hb (fun hh => hn (hs b hh))⟩
set_option maxHeartbeats 2000000 in
theorem measures_walk (x0 x1 x2 x3 : Int) (x4 x5 : Bool) (w : World) : Calls Try.prog 43 #[.agg #[.int .i64 x0, .int .i64 x1, .int .i64 x2, .int .i64 x3, .bool x4, .bool x5]] w fun e w' => e = .returned (.bool (decide (x3 = 1) && !x4)) ∧ Below w.heap.size w w' := by
  have HB := hide (pc_box w x0 x1 x2 x3 x4 x5)
  have HW := hide ((Below.refl w.heap.size w).alloc (Nat.le_refl _) (.cells #[.int .i64 x0, .int .i64 x1, .int .i64 x2, .int .i64 x3, .bool x4, .bool x5] 48))
  have k3 := HB.out.cell 3 _ rfl; have k4 := HB.out.cell 4 _ rfl
  by_cases h3 : x3 = 1
  · rw [decide_eq_true h3]
    subst h3
    cases x4 <;>
    (go_enter Try.func43, Try.ntmps43
     go_wp2_with fail
     go_ret
     exact ⟨rfl, HW.out⟩)
  · rw [decide_eq_false h3]
    have h3b : (x3 == 1) = false := beq_eq_false_iff_ne.2 h3
    cases x4 <;>
    (go_enter Try.func43, Try.ntmps43
     go_wp2_with fail
     go_ret
     exact ⟨rfl, HW.out⟩)
set_option maxHeartbeats 2000000 in
theorem liesWithin_walk (x0 x1 x2 x3 : Int) (x4 x5 : Bool) (s0 s1 : Int) (w : World) : Calls Try.prog 48 #[.agg #[.int .i64 x0, .int .i64 x1, .int .i64 x2, .int .i64 x3, .bool x4, .bool x5], .agg #[.int .i64 s0, .int .i64 s1]] w fun e w' => e = .returned (.bool (decide (s0 ≤ x0 ∧ x1 ≤ s1))) ∧ Below w.heap.size w w' := by
  obtain ⟨hb2, hP, hS⟩ := two_boxes w #[.int .i64 x0, .int .i64 x1, .int .i64 x2, .int .i64 x3, .bool x4, .bool x5] #[.int .i64 s0, .int .i64 s1] 48 43
  have HB2 := hide hb2
  have k0 := hP.cell 0 _ rfl; have k1 := hP.cell 1 _ rfl
  have j0 := hS.cell 0 _ rfl; have j1 := hS.cell 1 _ rfl
  clear hb2 hP hS
  by_cases h1 : s0 ≤ x0
  · by_cases h2 : x1 ≤ s1
    · rw [decide_eq_true (show s0 ≤ x0 ∧ x1 ≤ s1 from ⟨h1, h2⟩)]
      go_enter Try.func48, Try.ntmps48
      go_wp2_with fail
      go_ret
      exact ⟨rfl, HB2.out⟩
    · rw [decide_eq_false (show ¬ (s0 ≤ x0 ∧ x1 ≤ s1) from fun h => h2 h.2)]
      go_enter Try.func48, Try.ntmps48
      go_wp2_with fail
      go_ret
      exact ⟨rfl, HB2.out⟩
  · rw [decide_eq_false (show ¬ (s0 ≤ x0 ∧ x1 ≤ s1) from fun h => h1 h.1)]
    go_enter Try.func48, Try.ntmps48
    go_wp2_with fail
    go_ret
    exact ⟨rfl, HB2.out⟩
set_option maxHeartbeats 4000000 in
theorem counts_walk (L : Nat) (u x : Int) (ns : List (Nat × PieceM)) (s0 s1 : Int) (w : World) (h : HoldV w L (plV u x ns) plT) : Calls Try.prog 47 #[.pointer (some ⟨L, 0, none⟩), .agg #[.int .i64 s0, .int .i64 s1]] w fun e w' => e = .returned (.bool (decide (u ≤ s0 ∧ s0 < s1 ∧ s1 ≤ x))) ∧ Below w.heap.size w w' := by
  have hal := (Below.refl w.heap.size w).alloc (Nat.le_refl _) (.cells #[.int .i64 s0, .int .i64 s1] 43)
  have HB := hide hal
  have hL := h.next hal
  have hS := hv_new w #[.int .i64 s0, .int .i64 s1] 43
  have l0 := hL.cell 0 _ rfl; have l1 := hL.cell 1 _ rfl
  have j0 := hS.cell 0 _ rfl; have j1 := hS.cell 1 _ rfl
  clear hal hL hS h
  by_cases h1 : u ≤ s0
  · by_cases h2 : s0 < s1
    · by_cases h3 : s1 ≤ x
      · rw [decide_eq_true (show u ≤ s0 ∧ s0 < s1 ∧ s1 ≤ x from ⟨h1, h2, h3⟩)]
        have d1 : decide (u ≤ s0) = true := decide_eq_true h1
        have d2 : decide (s0 < s1) = true := decide_eq_true h2
        have d3 : decide (s1 ≤ x) = true := decide_eq_true h3
        go_enter Try.func47, Try.ntmps47
        go_wp2_with fail
        go_quiet (fail)
        go_wp2_with fail
        go_ret
        exact ⟨rfl, below_drewN HB.out nq⟩
      · rw [decide_eq_false (show ¬ (u ≤ s0 ∧ s0 < s1 ∧ s1 ≤ x) from fun h => h3 h.2.2)]
        have d1 : decide (u ≤ s0) = true := decide_eq_true h1
        have d2 : decide (s0 < s1) = true := decide_eq_true h2
        have d3 : decide (s1 ≤ x) = false := decide_eq_false h3
        go_enter Try.func47, Try.ntmps47
        go_wp2_with fail
        go_quiet (fail)
        go_wp2_with fail
        go_ret
        exact ⟨rfl, below_drewN HB.out nq⟩
    · rw [decide_eq_false (show ¬ (u ≤ s0 ∧ s0 < s1 ∧ s1 ≤ x) from fun h => h2 h.2.1)]
      have d1 : decide (u ≤ s0) = true := decide_eq_true h1
      have d2 : decide (s0 < s1) = false := decide_eq_false h2
      go_enter Try.func47, Try.ntmps47
      go_wp2_with fail
      go_quiet (fail)
      go_wp2_with fail
      go_ret
      exact ⟨rfl, below_drewN HB.out nq⟩
  · rw [decide_eq_false (show ¬ (u ≤ s0 ∧ s0 < s1 ∧ s1 ≤ x) from fun h => h1 h.1)]
    have d1 : decide (u ≤ s0) = false := decide_eq_false h1
    go_enter Try.func47, Try.ntmps47
    go_wp2_with fail
    go_quiet (fail)
    go_wp2_with fail
    go_ret
    exact ⟨rfl, below_drewN HB.out nq⟩
/-- A list without its first piece. -/
theorem DL.tail {w w' : World} {B L p : Nat} {u x : Int} {o : PieceM} {ns : List (Nat × PieceM)} (h : DL w B L u x ((p, o) :: ns)) (hL : HoldV w' L (plV u x ns) plT) (hs : Seg w' none ns none) : DL w' B L u x ns := by
  have hnd := h.nd
  simp only [bks, List.map_cons, List.nodup_cons, List.mem_cons, not_or] at hnd
  refine ⟨hL, hs, List.nodup_cons.2 ⟨hnd.1.2, hnd.2.2⟩, fun b hb => h.lo b ?_⟩
  rcases List.mem_cons.1 hb with rfl | hb
  · exact List.mem_cons_self
  · exact List.mem_cons_of_mem _ (List.mem_cons_of_mem _ hb)
set_option maxHeartbeats 8000000 in
theorem drop_walk_n (B L p : Nat) (u x : Int) (o : PieceM) (w : World) (h : DL w B L u x [(p, o)]) :
    Calls Try.prog 44 #[.pointer (some ⟨L, 0, none⟩), .pointer (some ⟨p, 0, none⟩)] w fun e w' => e = .returned (.tuple #[]) ∧ DL w' B L u x [] ∧ Below B w w' ∧ Fr (L :: bks [(p, o)]) w w' := by
  have hd := h.drew
  have HLB := hide (h.lo L (by simp))
  have HD := hide hd
  have p6 := hd.seg.1.cell 6 _ rfl; have p7 := hd.seg.1.cell 7 _ rfl
  have H1 := hv_set hd.head 3 (.pointer none)
  have H2 := hv_set H1 4 (.pointer none)
  have H3 := hide (hv_set H2 2 (.int .i64 0))
  have l2 := H2.cell 2 _ rfl; have lf := H2.frozen
  have CL := hide (link_walk_nn L _ _ w.drew (hd.head.cell 3 _ rfl) (hd.head.frozen 3) (H1.cell 4 _ rfl) (H1.frozen 4))
  have HB := hide ((Below.refl B w).drew)
  have HFr := hide (Fr.below (S := L :: bks [(p, o)]) (Below.refl w.heap.size w).drew)
  clear H1 H2 h hd
  go_enter Try.func44, Try.ntmps44
  go_upto_region 0 with fail
  refine region_tail 9 (by kernel_rfl) (by kernel_rfl) ?_
  obtain ⟨V, hVe⟩ : ∃ V, V = w.drew := ⟨_, rfl⟩
  rw [← hVe] at CL HD HB HFr H3 p6 p7 l2 lf ⊢
  clear hVe
  simp only [List.take_succ_cons, List.take_zero, List.drop_succ_cons, List.drop_zero]
  repeat (first | go_big_quiet_skip | (go_big_quiet_want; go_big_quiet_op; go_big_quiet_on))
  refine wpQuiet_nil ?_
  clear p6 p7
  go_wp2_with (go_at_call 62; refine CL.out.mono ?_; rintro e w3 ⟨rfl, rfl⟩)
  go_end0
  exact ⟨rfl, HD.out.tail H3.out trivial, ((HB.out.setCell (p := ⟨L, 3, none⟩) HLB.out _).setCell (p := ⟨L, 4, none⟩) HLB.out _).setCell (p := ⟨L, 2, none⟩) HLB.out _, ((HFr.out.set (by simp) 3 _).set (by simp) 4 _).set (by simp) 2 _⟩
set_option maxHeartbeats 8000000 in
theorem drop_walk_s (B L p : Nat) (u x : Int) (o : PieceM) (q : Nat) (oq : PieceM) (r : List (Nat × PieceM)) (w : World) (h : DL w B L u x ((p, o) :: (q, oq) :: r)) (hl : r.length ≤ 1048576) :
    Calls Try.prog 44 #[.pointer (some ⟨L, 0, none⟩), .pointer (some ⟨p, 0, none⟩)] w fun e w' => e = .returned (.tuple #[]) ∧ DL w' B L u x ((q, oq) :: r) ∧ Below B w w' ∧ Fr (L :: bks ((p, o) :: (q, oq) :: r)) w w' := by
  have hd := h.drew
  have HLB := hide (h.lo L (by simp)); have HQB := hide (h.lo q (by simp))
  have HD := hide hd
  have hnd := hd.nd
  simp only [bks, List.map_cons, List.nodup_cons, List.mem_cons, not_or] at hnd
  obtain ⟨⟨_, nLq, nLr⟩, _, nqr, _⟩ := hnd
  have p6 := hd.seg.1.cell 6 _ rfl; have p7 := hd.seg.1.cell 7 _ rfl
  obtain ⟨_, hq0, hr0⟩ := hd.seg
  have H1 := hv_set hd.head 3 (.pointer (some ⟨q, 0, none⟩))
  have Q1 := hv_other hq0 (C := L) (fun e => nLq e.symm) 3 (.pointer (some ⟨q, 0, none⟩))
  have H2 := hv_other H1 (C := q) nLq 6 (.pointer none)
  have Q2 := hv_set Q1 6 (.pointer none)
  obtain ⟨cn, hcn⟩ : ∃ cn : Int, cn = (r.length : Int) := ⟨_, rfl⟩
  have hc0 : 0 ≤ cn := by omega
  have hc1 : cn ≤ 1048576 := by omega
  have H3 := hide (hv_set H2 2 (.int .i64 (cn + 1)))
  have Q3 := hide (hv_other Q2 (C := L) (fun e => nLq e.symm) 2 (.int .i64 (cn + 1)))
  have l2 : ((w.drew.setCell ⟨L, 3, none⟩ (.pointer (some ⟨q, 0, none⟩))).setCell ⟨q, 6, none⟩ (.pointer none)).cell? ⟨L, 2, none⟩ = some (.int .i64 (cn + 2)) := by
    refine (H2.cell 2 (.int .i64 ((((p, o) :: (q, oq) :: r).length : Nat) : Int)) rfl).trans ?_
    rw [hcn]
    exact congrArg (fun z => some (Value.int .i64 z)) (by simp only [List.length_cons]; omega)
  have lf := H2.frozen
  have CL := hide (link_walk_ns L q _ _ w.drew (hd.head.cell 3 _ rfl) (hd.head.frozen 3) (Q1.cell 6 _ rfl) (Q1.frozen 6))
  have HB := hide ((Below.refl B w).drew)
  have HFr := hide (Fr.below (S := L :: bks ((p, o) :: (q, oq) :: r)) (Below.refl w.heap.size w).drew)
  have HS : Hid (Seg (((w.drew.setCell ⟨L, 3, none⟩ (.pointer (some ⟨q, 0, none⟩))).setCell ⟨q, 6, none⟩ (.pointer none)).setCell ⟨L, 2, none⟩ (.int .i64 (cn + 1))) (some q) r none) := hide (hr0.frame (fun c hc => by
    have h1 : c ≠ L := fun e => nLr (by rw [← e]; exact hc)
    have h2 : c ≠ q := fun e => nqr (by rw [← e]; exact hc)
    exact (heap_setCell_other _ _ c _ h1).trans ((heap_setCell_other _ _ c _ h2).trans (heap_setCell_other _ _ c _ h1))))
  have hw1 : IntKind.i64.wrap (cn + 2 - 1) = cn + 1 := by rw [IntKind.wrap_i64]; omega
  have HCN := hide hcn
  clear H1 H2 Q1 Q2 hq0 hr0 h hd nLq nLr nqr hcn hl
  go_enter Try.func44, Try.ntmps44
  go_upto_region 0 with fail
  refine region_tail 9 (by kernel_rfl) (by kernel_rfl) ?_
  obtain ⟨V, hVe⟩ : ∃ V, V = w.drew := ⟨_, rfl⟩
  rw [← hVe] at CL HD HB HFr H3 Q3 HS p6 p7 l2 lf ⊢
  clear hVe
  simp only [List.take_succ_cons, List.take_zero, List.drop_succ_cons, List.drop_zero]
  repeat (first | go_big_quiet_skip | (go_big_quiet_want; go_big_quiet_op; go_big_quiet_on))
  refine wpQuiet_nil ?_
  clear p6 p7
  go_wp2_with (go_at_call 62; refine CL.out.mono ?_; rintro e w3 ⟨rfl, rfl⟩)
  go_end0
  refine ⟨rfl, HD.out.tail ?_ ⟨Q3.out, HS.out⟩, ((HB.out.setCell (p := ⟨L, 3, none⟩) HLB.out _).setCell (p := ⟨q, 6, none⟩) HQB.out _).setCell (p := ⟨L, 2, none⟩) HLB.out _, ((HFr.out.set (by simp) 3 _).set (by simp) 6 _).set (by simp) 2 _⟩
  have e : ((((q, oq) :: r).length : Nat) : Int) = cn + 1 := by rw [HCN.out]; simp only [List.length_cons]; omega
  unfold plV
  rw [e]
  exact H3.out
theorem drop_walk (B L p : Nat) (u x : Int) (o : PieceM) (ns : List (Nat × PieceM)) (w : World) (h : DL w B L u x ((p, o) :: ns)) (hl : ns.length ≤ 1048576) :
    Calls Try.prog 44 #[.pointer (some ⟨L, 0, none⟩), .pointer (some ⟨p, 0, none⟩)] w fun e w' => e = .returned (.tuple #[]) ∧ DL w' B L u x ns ∧ Below B w w' ∧ Fr (L :: bks ((p, o) :: ns)) w w' := by
  cases ns with
  | nil => exact drop_walk_n B L p u x o w h
  | cons q r => exact drop_walk_s B L p u x o q.1 q.2 r w h (by simp at hl; omega)
set_option maxRecDepth 100000
/-- The board's pieces behind an acknowledgement, and ahead of what is told to be there. -/
def cutP (ack : Int) (p : PieceM) : PieceM := ⟨max p.f0 ack, p.f1, p.f2, p.f3, p.f4, p.f5⟩
def ackH (ack : Int) (os : List PieceM) : List PieceM := (os.filter (fun p => decide (ack < p.f1))).map (cutP ack)
def frsL (ack : Int) (os : List PieceM) : List PieceM := match os with | [] => [] | o :: r => ⟨ack, o.f1, o.f2, o.f3, o.f4, o.f5⟩ :: r
theorem ackH_app (ack : Int) (a b : List PieceM) : ackH ack (a ++ b) = ackH ack a ++ ackH ack b := by unfold ackH; rw [List.filter_append, List.map_append]
theorem ackH_gone {ack : Int} : ∀ (a : List PieceM), (∀ p ∈ a, p.f1 ≤ ack) → ackH ack a = []
  | [], _ => rfl
  | o :: a, h => by
    have h1 : ¬ ack < o.f1 := Int.not_lt.2 (h o (by simp))
    have h2 := ackH_gone a (fun p hp => h p (by simp [hp]))
    unfold ackH at h2 ⊢
    rw [List.filter_cons_of_neg (by simp [h1]), h2]
theorem ackH_id {ack : Int} : ∀ (r : List PieceM), (∀ p ∈ r, ack < p.f0 ∧ ack < p.f1) → ackH ack r = r
  | [], _ => rfl
  | o :: r, h => by
    have h1 := h o (by simp)
    have h2 := ackH_id r (fun p hp => h p (by simp [hp]))
    unfold ackH at h2 ⊢
    rw [List.filter_cons_of_pos (by simp [h1.2]), List.map_cons, h2]
    have e : cutP ack o = o := by
      unfold cutP
      rw [show max o.f0 ack = o.f0 by omega]
    rw [e]
theorem ackH_cons {ack : Int} {o : PieceM} (h : ack < o.f1) (r : List PieceM) : ackH ack (o :: r) = cutP ack o :: ackH ack r := by
  unfold ackH
  rw [List.filter_cons_of_pos (by simp [h]), List.map_cons]
theorem chk_behind {ack : Int} {r : List PieceM} {v m : Int} (h : chk v r = some m) (hv : ack < v) : ∀ p ∈ r, ack < p.f0 ∧ ack < p.f1 := by
  intro p hp
  obtain ⟨h1, _, h3⟩ := chk_mem r v m h p hp
  have := h3.1
  omega
theorem chk_end {ack : Int} : ∀ (a : List PieceM) (u m : Int), chk u a = some m → u ≤ ack → (∀ p ∈ a, p.f1 ≤ ack) → m ≤ ack
  | [], u, m, h, hu, _ => by cases h; exact hu
  | o :: a, u, m, h, hu, ha => by
    by_cases hh : o.f0 = u ∧ vp o
    · rw [chk_cons hh.1 hh.2] at h
      exact chk_end a _ _ h (ha o (by simp)) (fun p hp => ha p (by simp [hp]))
    · rw [chk_ill hh] at h; cases h
theorem ackS_skip (ack : Int) : ∀ (b a : List PieceM), (∀ p ∈ b, ack < p.f1) → ackS ack (a ++ b) = ackS ack a
  | [], a, _ => by rw [List.append_nil]
  | o :: b, a, h => by
    have h1 : ¬ o.f1 ≤ ack := Int.not_le.2 (h o (by simp))
    have h2 := ackS_skip ack b (a ++ [o]) (fun p hp => h p (by simp [hp]))
    rw [List.append_assoc] at h2
    rw [show a ++ o :: b = a ++ ([o] ++ b) from rfl, h2, ackS_snoc, if_neg (fun hh => h1 hh.1)]
theorem ack_split {u x ack : Int} {a b : List PieceM} (hok : bOK u x (a ++ b)) (hu : u ≤ ack) (ha : ∀ p ∈ a, p.f1 ≤ ack) (hb : ∀ o r, b = o :: r → ack < o.f1) : ackH ack (a ++ b) = frsL ack b ∧ ackS ack (a ++ b) = ackS ack a := by
  obtain ⟨m, h1, h2⟩ := chk_app _ _ _ _ hok.2.2.2
  have hm := chk_end a u m h1 hu ha
  cases b with
  | nil => exact ⟨by rw [List.append_nil, ackH_gone a ha]; rfl, by rw [List.append_nil]⟩
  | cons o r =>
    by_cases hh : o.f0 = m ∧ vp o
    · rw [chk_cons hh.1 hh.2] at h2
      have ho := hb o r rfl
      have hr := chk_behind h2 ho
      refine ⟨?_, ackS_skip ack _ _ (fun p hp => ?_)⟩
      · rw [ackH_app, ackH_gone a ha, List.nil_append, ackH_cons ho, ackH_id r hr]
        show cutP ack o :: r = (⟨ack, o.f1, o.f2, o.f3, o.f4, o.f5⟩ : PieceM) :: r
        unfold cutP
        rw [show max o.f0 ack = ack by have := hh.1; omega]
      · rcases List.mem_cons.1 hp with rfl | hp
        · exact ho
        · exact (hr p hp).2
    · rw [chk_ill hh] at h2; cases h2
theorem ackH_chk {ack x : Int} (hx : ack ≤ x) : ∀ (os : List PieceM) (u : Int), chk u os = some x → u ≤ ack → chk ack (ackH ack os) = some x
  | [], u, h, hu => by
    cases h
    have e : ack = x := by omega
    rw [e]
    rfl
  | o :: r, u, h, hu => by
    by_cases hh : o.f0 = u ∧ vp o
    · rw [chk_cons hh.1 hh.2] at h
      by_cases h1 : ack < o.f1
      · rw [ackH_cons h1, ackH_id r (chk_behind h h1)]
        have e : (cutP ack o).f0 = ack := by show max o.f0 ack = ack; have := hh.1; omega
        rw [chk_cons e ⟨by rw [e]; exact h1, hh.2.2⟩]
        exact h
      · rw [show o :: r = [o] ++ r from rfl, ackH_app, ackH_gone [o] (by intro p hp; simp at hp; subst hp; exact Int.not_lt.1 h1), List.nil_append]
        exact ackH_chk hx r _ h (Int.not_lt.1 h1)
    · rw [chk_ill hh] at h; cases h
theorem ackH_ok {u x ack : Int} {os : List PieceM} (hok : bOK u x os) (h1 : u ≤ ack) (h2 : ack ≤ x) : bOK ack x (ackH ack os) :=
  ⟨Int.le_trans hok.1 h1, hok.2.1, by
    have h : (ackH ack os).length ≤ os.length := by unfold ackH; rw [List.length_map]; exact List.length_filter_le _ _
    exact Nat.le_trans h hok.2.2.1, ackH_chk h2 os u hok.2.2.2 h1⟩
/-- How many pieces lie in a list in memory. -/
def nAt (w : World) (L : Nat) : Nat := match w.cell? ⟨L, 2, none⟩ with | some (.int _ z) => z.toNat | _ => 0
theorem nAt_DL {w : World} {B L : Nat} {u x : Int} {ns : List (Nat × PieceM)} (h : DL w B L u x ns) : nAt w L = ns.length := by
  unfold nAt
  rw [h.head.cell 2 _ rfl]
  simp
theorem DL.setu {w : World} {B L : Nat} {u x : Int} {ns : List (Nat × PieceM)} (h : DL w B L u x ns) (u' : Int) : DL (w.setCell ⟨L, 0, none⟩ (.int .i64 u')) B L u' x ns :=
  by
  refine ⟨hv_set h.head 0 _, h.seg.frame (fun b hb => heap_setCell_other _ _ b _ (fun e => ?_)), h.nd, h.lo⟩
  have h1 := (List.nodup_cons.1 h.nd).1
  exact h1 (by rw [show L = b from e.symm]; exact hb)
def SubB (a b : List (Nat × PieceM)) : Prop := ∀ k ∈ bks a, k ∈ bks b
set_option maxHeartbeats 16000000 in
theorem acknowledge_walk (B L : Nat) (u x ack : Int) (ns : List (Nat × PieceM)) (w : World) (h : DL w B L u x ns) (hB : B ≤ w.heap.size) (hok : bOK u x (ns.map Prod.snd)) (hu : u ≤ ack) :
    Calls Try.prog 29 #[.pointer (some ⟨L, 0, none⟩), .int .i64 ack] w fun e w' => ∃ ns2 : List (Nat × PieceM), e = .returned (.int .i64 (ackS ack (ns.map Prod.snd))) ∧ DL w' B L ack x ns2 ∧ ns2.map Prod.snd = ackH ack (ns.map Prod.snd) ∧ Below B w w' ∧ Fr (L :: bks ns) w w' ∧ SubB ns2 ns := by
  have HD0 := hide h; have HOK := hide hok; have HU := hide hu
  have HLB := hide (h.lo L (by simp))
  have hnl : ns.length ≤ 4096 := by have := hok.2.2.1; rwa [List.length_map] at this
  clear h hok hu
  go_enter Try.func29, Try.ntmps29
  go_wp2_with fail
  go_loopw [5] (fun s w2 => ∃ xs ys : List (Nat × PieceM), Hid (ns = xs ++ ys) ∧ s = .int .i64 (ackS ack (xs.map Prod.snd)) ∧ Hid (∀ p ∈ xs.map Prod.snd, p.f1 ≤ ack) ∧ Hid (DL w2 B L u x ys) ∧ Hid (Below B w w2) ∧ Hid (Fr (L :: bks ns) w w2)) (fun _ w2 => nAt w2 L)
  case atStart => exact ⟨[], ns, hide rfl, rfl, hide (by simp), HD0, hide (Below.refl _ _), hide (Fr.refl _ _)⟩
  case round =>
    rename World => wk
    obtain ⟨xs, ys, HXY, rfl, HA, HD, HB, HFr⟩ := hrel
    cases ys with
    | nil =>
      have HF : Hid (ackH ack (ns.map Prod.snd) = [] ∧ ackS ack (ns.map Prod.snd) = ackS ack (xs.map Prod.snd)) := hide (by
        have h := ack_split (a := xs.map Prod.snd) (b := []) (by have h := HOK.out; rw [HXY.out, List.append_nil] at h; rw [List.append_nil]; exact h) HU.out HA.out (fun o r e => by cases e)
        rw [HXY.out, List.append_nil]
        rw [List.append_nil] at h
        exact h)
      have l0 := HD.out.head.cell 0 _ rfl; have lf := HD.out.head.frozen
      have l3 := HD.out.head.cell 3 (.pointer none) rfl
      generalize ackS ack (xs.map Prod.snd) = s at *
      go_wp2_with fail
      go_ret
      exact ⟨[], ret_int HF.out.2.symm, HD.out.setu ack, HF.out.1.symm, HB.out.setCell (p := ⟨L, 0, none⟩) HLB.out _, HFr.out.set (by simp) 0 _, fun b hb => by simp at hb⟩
    | cons p ys =>
      obtain ⟨c, q⟩ := p
      have hC := HD.out.seg.1
      have c1 := hC.cell 1 _ rfl; have c0 := hC.cell 0 _ rfl; have c2 := hC.cell 2 _ rfl; have c3 := hC.cell 3 _ rfl; have c4 := hC.cell 4 _ rfl; have c5 := hC.cell 5 _ rfl; have cf := hC.frozen
      have HCB := hide (HD.out.lo c (by simp [bks]))
      have l0 := HD.out.head.cell 0 _ rfl; have lf := HD.out.head.frozen
      have l3 := HD.out.head.cell 3 (.pointer (some ⟨c, 0, none⟩)) rfl
      obtain ⟨x0, x1, x2, x3, x4, x5⟩ := q
      try dsimp only at c0 c1 c2 c3 c4 c5
      clear hC
      by_cases hd : x1 ≤ ack
      · have hxs : Hid (ns = (xs ++ [(c, PieceM.mk x0 x1 x2 x3 x4 x5)]) ++ ys) := hide (by rw [HXY.out]; simp)
        have HA2 : Hid (∀ p ∈ (xs ++ [(c, PieceM.mk x0 x1 x2 x3 x4 x5)]).map Prod.snd, p.f1 ≤ ack) := hide (by
          intro p hp
          rw [List.map_append] at hp
          rcases List.mem_append.1 hp with hp | hp
          · exact HA.out p hp
          · simp at hp; subst hp; exact hd)
        have HS : Hid (ackS ack ((xs ++ [(c, PieceM.mk x0 x1 x2 x3 x4 x5)]).map Prod.snd) = if x3 = 1 ∧ x4 = false then x2 else ackS ack (xs.map Prod.snd)) := hide (by
          rw [List.map_append]
          show ackS ack (xs.map Prod.snd ++ [PieceM.mk x0 x1 x2 x3 x4 x5]) = _
          rw [ackS_snoc]
          simp [hd])
        generalize ackS ack (xs.map Prod.snd) = s at *
        have hyl : ys.length ≤ 1048576 := by
          have h := congrArg List.length HXY.out
          simp at h
          omega
        have HL1 := hide (nAt_DL HD.out)
        have CM := hide (measures_walk x0 x1 x2 x3 x4 x5 wk)
        go_wp2_with fail
        refine CM.out.mono ?_
        rintro e w3 ⟨rfl, hb3⟩
        have HD3 := hide (HD.out.next hb3)
        have HFr3 : Hid (Fr (L :: bks ns) w w3) := hide (HFr.out.trans (Fr.below hb3))
        have HSub : Hid (∀ b ∈ L :: bks ((c, PieceM.mk x0 x1 x2 x3 x4 x5) :: ys), b ∈ L :: bks ns) := hide (by rw [HXY.out]; intro b hb; simp [bks] at hb ⊢; rcases hb with h | h | h <;> simp [h])
        have HB3 : Hid (Below B w w3) := hide (HB.out.trans (hb3.mono (by have := HB.out.size; omega)))
        have CD := hide (drop_walk B L c u x _ ys w3 HD3.out hyl)
        have l3' := HD3.out.head.cell 3 (.pointer (some ⟨c, 0, none⟩)) rfl
        have c2' := HD3.out.seg.1.cell 2 (.int .i64 x2) rfl
        clear hb3 HD HB CM l3 l0 lf c0 c1 c2 c3 c4 c5 cf
        cases hm : (decide (x3 = 1) && !x4) with
        | true =>
          have HS2 : Hid (ackS ack ((xs ++ [(c, PieceM.mk x0 x1 x2 x3 x4 x5)]).map Prod.snd) = x2) := hide (by rw [HS.out, if_pos (by cases x4 <;> simp_all)])
          go_wp2_with fail
          refine CD.out.mono ?_
          rintro e w4 ⟨rfl, hD4, hB4, hF4⟩
          have HFr4 := hide (HFr3.out.trans (hF4.mono HSub.out))
          have HB5 : Hid (Below B w w4) := hide (HB3.out.trans hB4)
          have HD4 := hide hD4
          have HL2 := hide (nAt_DL hD4)
          clear hD4 hB4 hF4
          go_wp2_with fail
          exact ⟨⟨_, ys, hxs, by rw [HS2.out], HA2, HD4, HB5, HFr4⟩, by rw [HL1.out, HL2.out]; simp⟩
        | false =>
          have HS2 : Hid (ackS ack ((xs ++ [(c, PieceM.mk x0 x1 x2 x3 x4 x5)]).map Prod.snd) = s) := hide (by rw [HS.out, if_neg (by cases x4 <;> simp_all)])
          go_wp2_with fail
          refine CD.out.mono ?_
          rintro e w4 ⟨rfl, hD4, hB4, hF4⟩
          have HFr4 := hide (HFr3.out.trans (hF4.mono HSub.out))
          have HB5 : Hid (Below B w w4) := hide (HB3.out.trans hB4)
          have HD4 := hide hD4
          have HL2 := hide (nAt_DL hD4)
          clear hD4 hB4 hF4
          go_wp2_with fail
          exact ⟨⟨_, ys, hxs, by rw [HS2.out], HA2, HD4, HB5, HFr4⟩, by rw [HL1.out, HL2.out]; simp⟩
      · have HF : Hid (ackH ack (ns.map Prod.snd) = frsL ack (((c, PieceM.mk x0 x1 x2 x3 x4 x5) :: ys).map Prod.snd) ∧ ackS ack (ns.map Prod.snd) = ackS ack (xs.map Prod.snd)) := hide (by
          have h := ack_split (a := xs.map Prod.snd) (b := ((c, PieceM.mk x0 x1 x2 x3 x4 x5) :: ys).map Prod.snd) (by have h := HOK.out; rw [HXY.out, List.map_append] at h; exact h) HU.out HA.out (fun o r e => by
            simp at e
            rw [← e.1]
            exact Int.not_le.1 hd)
          rw [HXY.out, List.map_append]
          exact h)
        generalize ackS ack (xs.map Prod.snd) = s at *
        have HD1 : Hid (DL (wk.setCell ⟨c, 0, none⟩ (.int .i64 ack)) B L u x ((c, ⟨ack, x1, x2, x3, x4, x5⟩) :: ys)) := hide (HD.out.put (xs := []) (o' := ⟨ack, x1, x2, x3, x4, x5⟩) (hv_set HD.out.seg.1 0 (.int .i64 ack)) (fun k hk _ => heap_setCell_other _ _ k _ hk))
        have l0' := HD1.out.head.cell 0 _ rfl; have lf' := HD1.out.head.frozen
        have HFr1 := hide (HFr.out.set (c := c) (by rw [HXY.out]; simp [bks]) 0 (.int .i64 ack))
        have HSub : Hid (SubB ((c, PieceM.mk ack x1 x2 x3 x4 x5) :: ys) ns) := hide (by rw [HXY.out]; intro b hb; simp [bks] at hb ⊢; rcases hb with h | h <;> simp [h])
        have HB1 : Hid (Below B w (wk.setCell ⟨c, 0, none⟩ (.int .i64 ack))) := hide (HB.out.setCell (p := ⟨c, 0, none⟩) HCB.out _)
        go_wp2_with fail
        go_ret
        exact ⟨ret_int HF.out.2.symm, (c, ⟨ack, x1, x2, x3, x4, x5⟩) :: ys, HD1.out.setu ack, HF.out.1.symm, HB1.out.setCell (p := ⟨L, 0, none⟩) HLB.out _, HFr1.out.set (by simp) 0 _, HSub.out⟩
set_option maxRecDepth 100000
theorem decide_two {a b : Prop} [Decidable a] [Decidable b] (h : a) : decide (a ∧ b) = decide b := by
  by_cases hb : b
  · rw [decide_eq_true hb, decide_eq_true ⟨h, hb⟩]
  · rw [decide_eq_false hb, decide_eq_false (fun hh => hb hh.2)]
set_option maxHeartbeats 16000000 in
theorem sackIs_walk (bl bp L c : Nat) (u x : Int) (ns : List (Nat × PieceM)) (q : PieceM) (pv nx : Option Nat) (s0 s1 : Int) (w : World) (hl : w.cell? ⟨bl, 0, none⟩ = some (.pointer (some ⟨L, 0, none⟩))) (hll : bl < w.heap.size) (hp : w.cell? ⟨bp, 0, none⟩ = some (.pointer (some ⟨c, 0, none⟩))) (hpl : bp < w.heap.size) (hL : HoldV w L (plV u x ns) plT) (hc : HoldV w c (lpV q pv nx) lpT) :
    Calls Try.prog 46 #[.agg #[.int .i64 s0, .int .i64 s1], .pointer (some ⟨bl, 0, none⟩), .pointer (some ⟨bp, 0, none⟩)] w fun e w' => e = .returned (.bool (decide (u ≤ s0 ∧ s0 < s1 ∧ s1 ≤ x ∧ s0 ≤ q.f0 ∧ q.f1 ≤ s1))) ∧ Below w.heap.size w w' := by
  obtain ⟨x0, x1, x2, x3, x4, x5⟩ := q
  have hal := (Below.refl w.heap.size w).alloc (Nat.le_refl _) (.cells #[.int .i64 s0, .int .i64 s1] 43)
  have hS := hv_new w #[.int .i64 s0, .int .i64 s1] 43
  have HW : Hid (∀ W, Below (w.alloc (.cells #[.int .i64 s0, .int .i64 s1] 43)).heap.size (w.alloc (.cells #[.int .i64 s0, .int .i64 s1] 43)) W → HoldV W L (plV u x ns) plT ∧ HoldV W c (lpV ⟨x0, x1, x2, x3, x4, x5⟩ pv nx) lpT ∧ W.cell? ⟨bl, 0, none⟩ = some (.pointer (some ⟨L, 0, none⟩)) ∧ W.cell? ⟨bp, 0, none⟩ = some (.pointer (some ⟨c, 0, none⟩)) ∧ HoldV W w.heap.size #[.int .i64 s0, .int .i64 s1] 43 ∧ Below w.heap.size w W) := hide (fun W hW => by
    have ha : Below w.heap.size w W := hal.trans (hW.mono hal.size)
    exact ⟨hL.next ha, hc.next ha, (ha.cell (p := ⟨bl, 0, none⟩) hll).trans hl, (ha.cell (p := ⟨bp, 0, none⟩) hpl).trans hp, hS.next hW, ha⟩)
  clear hl hp hL hc hal hS hll hpl
  obtain ⟨hL1, hc1, hl1, hp1, hS1, _⟩ := HW.out _ (Below.refl _ _)
  have j0 := hS1.cell 0 _ rfl; have j1 := hS1.cell 1 _ rfl
  clear hL1 hc1 hS1
  by_cases hA : u ≤ s0 ∧ s0 < s1 ∧ s1 ≤ x
  · have CC : Hid (∀ W, HoldV W L (plV u x ns) plT → Calls Try.prog 47 #[.pointer (some ⟨L, 0, none⟩), .agg #[.int .i64 s0, .int .i64 s1]] W fun e w' => e = .returned (.bool true) ∧ Below W.heap.size W w') := hide (fun W h => by
      have hh := counts_walk L u x ns s0 s1 W h
      rw [decide_eq_true hA] at hh
      exact hh)
    have HE : Hid (decide (s0 ≤ x0 ∧ x1 ≤ s1) = decide (u ≤ s0 ∧ s0 < s1 ∧ s1 ≤ x ∧ s0 ≤ x0 ∧ x1 ≤ s1)) := hide (by
      rw [decide_two hA.1, decide_two hA.2.1, decide_two hA.2.2])
    clear hA
    go_enter Try.func46, Try.ntmps46
    go_upto_region 1 with fail
    generalize w.alloc (.cells #[.int .i64 s0, .int .i64 s1] 43) = W1 at *
    go_region_with (first
      | (go_at_call 47; refine (CC.out _ (HW.out _ ((Below.refl _ _).drew)).1).mono ?_; rintro e w2 ⟨rfl, hb2⟩; obtain ⟨_, hc2, hl2, hp2, hS2, _⟩ := HW.out _ (below_drew hb2); have HB2 := hide (below_drew hb2); have i0 := hS2.cell 0 _ rfl; have i1 := hS2.cell 1 _ rfl; have c0 := hc2.cell 0 _ rfl; have c1 := hc2.cell 1 _ rfl; have c2 := hc2.cell 2 _ rfl; have c3 := hc2.cell 3 _ rfl; have c4 := hc2.cell 4 _ rfl; have c5 := hc2.cell 5 _ rfl; try dsimp only at c0 c1 c2 c3 c4 c5; clear hc2 hS2 hb2)
      | (go_at_call 48; refine (liesWithin_walk _ _ _ _ _ _ _ _ _).mono ?_; rintro e w3 ⟨rfl, hb3⟩; have HB3 := hide (HB2.out.trans (hb3.mono HB2.out.size)); clear hb3))
    all_goals (try go_wp2_with fail)
    all_goals go_ret
    all_goals exact ⟨ret_bool ((Bool.decide_and _ _).symm.trans HE.out), (HW.out _ HB3.out).2.2.2.2.2⟩
  · have CC : Hid (∀ W, HoldV W L (plV u x ns) plT → Calls Try.prog 47 #[.pointer (some ⟨L, 0, none⟩), .agg #[.int .i64 s0, .int .i64 s1]] W fun e w' => e = .returned (.bool false) ∧ Below W.heap.size W w') := hide (fun W h => by
      have hh := counts_walk L u x ns s0 s1 W h
      rw [decide_eq_false hA] at hh
      exact hh)
    have HE : Hid (false = decide (u ≤ s0 ∧ s0 < s1 ∧ s1 ≤ x ∧ s0 ≤ x0 ∧ x1 ≤ s1)) := hide ((decide_eq_false (fun h => hA ⟨h.1, h.2.1, h.2.2.1⟩)).symm)
    clear hA
    go_enter Try.func46, Try.ntmps46
    go_upto_region 1 with fail
    generalize w.alloc (.cells #[.int .i64 s0, .int .i64 s1] 43) = W1 at *
    go_region_with (go_at_call 47; refine (CC.out _ (HW.out _ ((Below.refl _ _).drew)).1).mono ?_; rintro e w2 ⟨rfl, hb2⟩; have HB2 := hide (below_drew hb2); clear hb2)
    all_goals (try go_wp2_with fail)
    all_goals go_ret
    all_goals exact ⟨ret_bool HE.out, (HW.out _ HB2.out).2.2.2.2.2⟩
set_option maxRecDepth 100000
theorem ge0_nat (i : Nat) : decide ((0 : Int) ≤ (i : Int)) = true := decide_eq_true (by omega)
set_option maxHeartbeats 16000000 in
theorem indexSt_walk (bl bp L c : Nat) (u x : Int) (ns : List (Nat × PieceM)) (q : PieceM) (pv nx : Option Nat) (a : Option Addr) (n cap : Nat) (zs : List Int) (w : World) (hl : w.cell? ⟨bl, 0, none⟩ = some (.pointer (some ⟨L, 0, none⟩))) (hll : bl < w.heap.size) (hp : w.cell? ⟨bp, 0, none⟩ = some (.pointer (some ⟨c, 0, none⟩))) (hpl : bp < w.heap.size) (hL : HoldV w L (plV u x ns) plT) (hc : HoldV w c (lpV q pv nx) lpT) (hn : zs.length = n * 2) (ha : ArrI w a zs) (hm : n ≤ 1048576) :
    Calls Try.prog 63 #[.slice a n cap, .func (.func 46) #[] #[.pointer (some ⟨bl, 0, none⟩), .pointer (some ⟨bp, 0, none⟩)]] w fun e w' => ∃ z : Int, e = .returned (.int .i64 z) ∧ Hid (decide (0 ≤ z) = wiB u x q.f0 q.f1 zs) ∧ Below w.heap.size w w' := by
  have HN := hide hn
  have HW : Hid (∀ W, Below w.heap.size w W → ArrI W a zs ∧ (∀ s0 s1, Calls Try.prog 46 #[.agg #[.int .i64 s0, .int .i64 s1], .pointer (some ⟨bl, 0, none⟩), .pointer (some ⟨bp, 0, none⟩)] W fun e w' => e = .returned (.bool (decide (u ≤ s0 ∧ s0 < s1 ∧ s1 ≤ x ∧ s0 ≤ q.f0 ∧ q.f1 ≤ s1))) ∧ Below W.heap.size W w')) := hide (fun W hW =>
    ⟨ha.below hW (Nat.le_refl _), fun s0 s1 => sackIs_walk bl bp L c u x ns q pv nx s0 s1 W ((hW.cell (p := ⟨bl, 0, none⟩) hll).trans hl) (Nat.lt_of_lt_of_le hll hW.size) ((hW.cell (p := ⟨bp, 0, none⟩) hpl).trans hp) (Nat.lt_of_lt_of_le hpl hW.size) (hL.next hW) (hc.next hW)⟩)
  clear hl hll hp hpl hL hc hn ha
  go_enter Try.func63, Try.ntmps63
  go_wp2_with fail
  go_loopw [8] (fun t w2 => ∃ i : Nat, i ≤ n ∧ t = .int .i64 i ∧ Hid (wiB u x q.f0 q.f1 zs = wiB u x q.f0 q.f1 (zs.drop (i * 2))) ∧ Hid (Below w.heap.size w w2)) (fun t _ => n - (intOf t).toNat)
  case atStart => exact ⟨0, Nat.zero_le _, rfl, hide (by rw [Nat.zero_mul]; rfl), hide (Below.refl _ _)⟩
  case round =>
    rename World => wk
    obtain ⟨i, hi, rfl, HC, HB⟩ := hrel
    by_cases hlt : i < n
    · have hlt2 : i * 2 + 2 ≤ n * 2 := by omega
      obtain ⟨hA2, hS⟩ := HW.out wk HB.out
      have HA2 := hide hA2
      obtain ⟨b, off, rfl, hb1, g0⟩ := HA2.out (i * 2) (by rw [HN.out]; omega)
      have g1 : wk.cell? ⟨b, off + (i * 2 + 1), none⟩ = some (.int .i64 (zs.getD (i * 2 + 1) 0)) := by
        obtain ⟨b', o', e, _, c⟩ := HA2.out (i * 2 + 1) (by rw [HN.out]; omega)
        cases e
        exact c
      rw [← Nat.add_assoc] at g1
      have HD : Hid (wiB u x q.f0 q.f1 zs = (decide (u ≤ zs.getD (i * 2) 0 ∧ zs.getD (i * 2) 0 < zs.getD (i * 2 + 1) 0 ∧ zs.getD (i * 2 + 1) 0 ≤ x ∧ zs.getD (i * 2) 0 ≤ q.f0 ∧ q.f1 ≤ zs.getD (i * 2 + 1) 0) || wiB u x q.f0 q.f1 (zs.drop ((i + 1) * 2)))) := hide (by rw [HC.out, drop_two (by rw [HN.out]; exact hlt2)]; conv => lhs; unfold wiB)
      clear HC HA2 hA2
      generalize zs.getD (i * 2) 0 = s0 at *
      generalize zs.getD (i * 2 + 1) 0 = s1 at *
      have CS := hide (hS s0 s1)
      clear hS
      cases hdd : decide (u ≤ s0 ∧ s0 < s1 ∧ s1 ≤ x ∧ s0 ≤ q.f0 ∧ q.f1 ≤ s1) with
      | true =>
        have HE : Hid (decide ((0 : Int) ≤ (i : Int)) = wiB u x q.f0 q.f1 zs) := hide (by rw [ge0_nat, HD.out, hdd, Bool.true_or])
        rw [hdd] at CS
        clear HD hdd
        go_wp2_with (go_at_call 46; refine CS.out.mono ?_; rintro e w3 ⟨rfl, hb3⟩; have HB3 := hide (HB.out.trans (hb3.mono HB.out.size)); clear hb3)
        go_ret
        exact ⟨_, rfl, HE, HB3.out⟩
      | false =>
        have HE : Hid (wiB u x q.f0 q.f1 zs = wiB u x q.f0 q.f1 (zs.drop ((i + 1) * 2))) := hide (by rw [HD.out, hdd, Bool.false_or])
        rw [hdd] at CS
        clear HD hdd
        go_wp2_with (go_at_call 46; refine CS.out.mono ?_; rintro e w3 ⟨rfl, hb3⟩; have HB3 := hide (HB.out.trans (hb3.mono HB.out.size)); clear hb3)
        exact ⟨⟨i + 1, by omega, by go_num, HE, HB3⟩, by simp [intOf]; omega⟩
    · have hin : i = n := by omega
      have HE : Hid (decide ((0 : Int) ≤ -1) = wiB u x q.f0 q.f1 zs) := hide (by rw [HC.out, hin, List.drop_eq_nil_of_le (by rw [HN.out]; exact Nat.le_refl _)]; rfl)
      clear HC
      go_wp2_with fail
      go_ret
      exact ⟨_, rfl, HE, HB.out⟩
set_option maxHeartbeats 4000000 in
theorem containsSt_walk (bl bp L c : Nat) (u x : Int) (ns : List (Nat × PieceM)) (q : PieceM) (pv nx : Option Nat) (a : Option Addr) (n cap : Nat) (zs : List Int) (w : World) (hl : w.cell? ⟨bl, 0, none⟩ = some (.pointer (some ⟨L, 0, none⟩))) (hll : bl < w.heap.size) (hp : w.cell? ⟨bp, 0, none⟩ = some (.pointer (some ⟨c, 0, none⟩))) (hpl : bp < w.heap.size) (hL : HoldV w L (plV u x ns) plT) (hc : HoldV w c (lpV q pv nx) lpT) (hn : zs.length = n * 2) (ha : ArrI w a zs) (hm : n ≤ 1048576) :
    Calls Try.prog 45 #[.slice a n cap, .func (.func 46) #[] #[.pointer (some ⟨bl, 0, none⟩), .pointer (some ⟨bp, 0, none⟩)]] w fun e w' => e = .returned (.bool (wiB u x q.f0 q.f1 zs)) ∧ Below w.heap.size w w' := by
  have CI := hide (indexSt_walk bl bp L c u x ns q pv nx a n cap zs w hl hll hp hpl hL hc hn ha hm)
  clear hl hll hp hpl hL hc hn ha
  go_enter Try.func45, Try.ntmps45
  go_wp2_with fail
  refine CI.out.mono ?_
  rintro e w3 ⟨z, rfl, HE, hb3⟩
  have HB3 := hide hb3
  clear hb3
  go_wp2_with fail
  go_ret
  exact ⟨ret_bool HE.out, HB3.out⟩
set_option maxHeartbeats 4000000 in
theorem markSacked_walk (c : Nat) (q : PieceM) (pv nx : Option Nat) (w : World) (h : HoldV w c (lpV q pv nx) lpT) (h0 : 0 ≤ q.f0) (h1 : q.f0 < q.f1) (h2 : q.f1 ≤ 1099511627776) :
    Calls Try.prog 49 #[.pointer (some ⟨c, 0, none⟩)] w fun e w' => e = .returned (.int .i64 (q.f1 - q.f0)) ∧ HoldV w' c (lpV ⟨q.f0, q.f1, q.f2, q.f3, true, false⟩ pv nx) lpT ∧ w.grownBy w' (some c) := by
  obtain ⟨x0, x1, x2, x3, x4, x5⟩ := q
  have c4 := h.cell 4 _ rfl; have c5 := h.cell 5 _ rfl; have cf := h.frozen
  have HC2 : Hid (HoldV ((w.setCell ⟨c, 4, none⟩ (.bool true)).setCell ⟨c, 5, none⟩ (.bool false)) c (lpV ⟨x0, x1, x2, x3, true, false⟩ pv nx) lpT) := hide (hv_set (hv_set h 4 _) 5 _)
  have HG : Hid (w.grownBy ((w.setCell ⟨c, 4, none⟩ (.bool true)).setCell ⟨c, 5, none⟩ (.bool false)) (some c)) := hide (gr_set (gr_set (grown_reflp _ _) 4 _) 5 _)
  have CZ := hide (size_walk x0 x1 x2 x3 true false ((w.setCell ⟨c, 4, none⟩ (.bool true)).setCell ⟨c, 5, none⟩ (.bool false)) h0 h1 h2)
  clear h h0 h1 h2
  go_enter Try.func49, Try.ntmps49
  go_upto_region 2 with fail
  clear c4 c5 cf
  generalize (w.setCell ⟨c, 4, none⟩ (.bool true)).setCell ⟨c, 5, none⟩ (.bool false) = W at *
  have c0 := HC2.out.cell 0 _ rfl; have c1 := HC2.out.cell 1 _ rfl; have c2 := HC2.out.cell 2 _ rfl; have c3 := HC2.out.cell 3 _ rfl; have c4 := HC2.out.cell 4 _ rfl; have c5 := HC2.out.cell 5 _ rfl
  go_wp2_with fail
  refine CZ.out.mono ?_
  rintro e w2 ⟨rfl, hb2⟩
  go_wp2_with fail
  go_ret
  exact ⟨rfl, HC2.out.next hb2, ⟨hb2.os.trans HG.out.os, hb2.tape.trans HG.out.tape, hb2.output.trans HG.out.output, Nat.le_trans HG.out.size hb2.size, fun k hk hne => (hb2.block k (Nat.lt_of_lt_of_le hk HG.out.size)).trans (HG.out.block k hk hne)⟩⟩
set_option maxRecDepth 100000
/-- A piece that one of the stretches tells to be there. -/
def sacB (u x : Int) (zs : List Int) (p : PieceM) : Bool := !p.f4 && wiB u x p.f0 p.f1 zs
def sacF (u x : Int) (zs : List Int) (p : PieceM) : PieceM := if sacB u x zs p = true then ⟨p.f0, p.f1, p.f2, p.f3, true, false⟩ else p
def sacG (u x : Int) (zs : List Int) : List PieceM → Int
  | [] => 0
  | p :: r => (if sacB u x zs p = true then p.f1 - p.f0 else 0) + sacG u x zs r
theorem sacG_app (u x : Int) (zs : List Int) : ∀ (a b : List PieceM), sacG u x zs (a ++ b) = sacG u x zs a + sacG u x zs b
  | [], b => by simp [sacG]
  | o :: a, b => by show _ + sacG u x zs (a ++ b) = _ + sacG u x zs a + sacG u x zs b; rw [sacG_app u x zs a b]; omega
theorem sacG_le (v x : Int) (zs : List Int) : ∀ (os : List PieceM) (u m : Int), chk u os = some m → 0 ≤ sacG v x zs os ∧ sacG v x zs os ≤ m - u
  | [], u, m, h => by cases h; simp [sacG]
  | o :: a, u, m, h => by
    by_cases hh : o.f0 = u ∧ vp o
    · rw [chk_cons hh.1 hh.2] at h
      have h1 := sacG_le v x zs a _ _ h
      have h2 := hh.2.1
      have h3 := hh.1
      show 0 ≤ (if sacB v x zs o = true then o.f1 - o.f0 else 0) + sacG v x zs a ∧ (if sacB v x zs o = true then o.f1 - o.f0 else 0) + sacG v x zs a ≤ m - u
      by_cases hc : sacB v x zs o = true
      · rw [if_pos hc]; omega
      · rw [if_neg hc]; omega
    · rw [chk_ill hh] at h; cases h
theorem sacG_part {u x v y : Int} {zs : List Int} {a b : List PieceM} (h : bOK u x (a ++ b)) : 0 ≤ sacG v y zs a ∧ sacG v y zs a ≤ 1099511627776 := by
  obtain ⟨m, h1, h2⟩ := chk_app _ _ _ _ h.2.2.2
  have h3 := sacG_le v y zs _ _ _ h1
  have h4 := chk_le _ _ _ h2
  have := h.1; have := h.2.1
  omega
/-- What a pointer's cell holds. -/
def ptAt (w : World) (t : Value) : Value := match t with | .pointer (some a) => (match w.cell? a with | some v => v | none => .pointer none) | _ => .pointer none
theorem ptAt_eq {w : World} {b : Nat} {v : Value} (h : w.cell? ⟨b, 0, none⟩ = some v) : ptAt w (.pointer (some ⟨b, 0, none⟩)) = v := by
  show (match w.cell? ⟨b, 0, none⟩ with | some v => v | none => .pointer none) = v
  rw [h]
set_option maxHeartbeats 24000000 in
theorem sack_walk (B L : Nat) (u x : Int) (ns : List (Nat × PieceM)) (aq : Option Addr) (nq cq : Nat) (zs : List Int) (w0 w : World) (h : DL w B L u x ns) (hB : B ≤ w.heap.size) (hok : bOK u x (ns.map Prod.snd)) (hn : zs.length = nq * 2) (ha : ArrI w0 aq zs) (hw0 : w0.heap.size ≤ B) (hb0 : Below w0.heap.size w0 w) (hm : nq ≤ 1048576) :
    Calls Try.prog 30 #[.pointer (some ⟨L, 0, none⟩), .slice aq nq cq] w fun e w' => e = .returned (.int .i64 (sacG u x zs (ns.map Prod.snd))) ∧ DL w' B L u x (chgN (sacF u x zs) ns) ∧ Below B w w' ∧ Fr (L :: bks ns) w w' := by
  have HD0 := hide h; have HOK := hide hok
  have HLN := hide h.nd
  have HLT := hide h.lt
  have HN := hide hn
  have HA0 : Hid (∀ W, Below B w W → ArrI W aq zs) := hide (fun W hW => ha.below (hb0.trans (hW.mono hw0)) (Nat.le_refl _))
  obtain ⟨hb2, hX, hP⟩ := two_boxes w #[.pointer (some ⟨L, 0, none⟩)] #[ptO (fstO ns none)] 59 71
  have HX := hide hX; have HP := hide hP; have HB2 : Hid (Below B w _) := hide (hb2.mono hB)
  have HD1 := hide (h.next hb2)
  have HFr0 : Hid (Fr (L :: bks ns) w _) := hide (Fr.below hb2)
  have ha1 := (Below.refl w.heap.size w).alloc (Nat.le_refl _) (.cells #[.pointer (some ⟨L, 0, none⟩)] 59)
  have l3 := (h.next ha1).head.cell 3 _ rfl
  have b0 := (hv_new w #[.pointer (some ⟨L, 0, none⟩)] 59).cell 0 _ rfl
  clear h hok hn ha hb0 hb2 hX hP ha1
  go_enter Try.func30, Try.ntmps30
  go_wp2_with fail
  clear l3 b0
  generalize (w.alloc (.cells #[.pointer (some ⟨L, 0, none⟩)] 59)).alloc (.cells #[ptO (fstO ns none)] 71) = V0 at *
  go_loopw [5, 6] (fun s t w2 => ∃ (xs ys : List (Nat × PieceM)) (PB : Nat), Hid (ns = xs ++ ys) ∧ s = .int .i64 (sacG u x zs (xs.map Prod.snd)) ∧ t = .pointer (some ⟨PB, 0, none⟩) ∧ w.heap.size < PB ∧ Hid (HoldV w2 PB #[ptO (fstO ys none)] 71) ∧ Hid (HoldV w2 w.heap.size #[.pointer (some ⟨L, 0, none⟩)] 59) ∧ Hid (DL w2 B L u x (chgN (sacF u x zs) xs ++ ys)) ∧ Hid (Below B w w2) ∧ Hid (Fr (L :: bks ns) w w2)) (fun _ t w2 => posOf (bks ns) (ptAt w2 t))
  case atStart => exact ⟨[], ns, w.heap.size + 1, hide rfl, rfl, rfl, Nat.lt_succ_self _, HP, HX, HD1, HB2, HFr0⟩
  case round =>
    rename World => wk
    obtain ⟨xs, ys, PB, HXY, rfl, rfl, hPB, HP, HX, HD, HB, HFr⟩ := hrel
    cases ys with
    | nil =>
      have HF : Hid (DL wk B L u x (chgN (sacF u x zs) ns)) := hide (by rw [HXY.out, List.append_nil]; have := HD.out; rwa [List.append_nil] at this)
      have HS : Hid (sacG u x zs (ns.map Prod.snd) = sacG u x zs (xs.map Prod.snd)) := hide (by rw [HXY.out, List.append_nil])
      generalize sacG u x zs (xs.map Prod.snd) = s at *
      have p0 := HP.out.cell 0 (.pointer none) rfl
      go_wp2_with fail
      go_ret
      exact ⟨ret_int HS.out.symm, HF.out, HB.out, HFr.out⟩
    | cons p ys =>
      obtain ⟨c, q⟩ := p
      have p0 := HP.out.cell 0 (.pointer (some ⟨c, 0, none⟩)) rfl
      have x0' := HX.out.cell 0 (.pointer (some ⟨L, 0, none⟩)) rfl
      have HP1 : Hid (posOf (bks ns) (ptAt wk (.pointer (some ⟨PB, 0, none⟩))) = ys.length + 1) := hide (by rw [ptAt_eq p0, HXY.out]; exact pos_at (ys := (c, q) :: ys) (by rw [← HXY.out]; exact HLN.out))
      have HXY2 : Hid (ns = (xs ++ [(c, q)]) ++ ys) := hide (by rw [HXY.out]; simp)
      have HP2 : Hid (posOf (bks ns) (ptO (fstO ys none)) = ys.length) := hide (by rw [HXY2.out]; exact pos_at (by rw [← HXY2.out]; exact HLN.out))
      obtain ⟨q0, q1, q2⟩ : 0 ≤ q.f0 ∧ q.f0 < q.f1 ∧ q.f1 ≤ 1099511627776 := bOK_piece HOK.out (by rw [HXY.out]; simp)
      obtain ⟨s0, s1⟩ : 0 ≤ sacG u x zs (xs.map Prod.snd) ∧ sacG u x zs (xs.map Prod.snd) ≤ 1099511627776 := sacG_part (b := (((c, q) :: ys).map Prod.snd)) (by have h := HOK.out; rw [HXY.out, List.map_append] at h; exact h)
      have HS : Hid (sacG u x zs ((xs ++ [(c, q)]).map Prod.snd) = sacG u x zs (xs.map Prod.snd) + (if sacB u x zs q = true then q.f1 - q.f0 else 0)) := hide (by rw [List.map_append, sacG_app]; simp [sacG])
      generalize sacG u x zs (xs.map Prod.snd) = s at *
      have hcl : c < w.heap.size := HLT.out c (by rw [HXY.out]; simp [bks])
      have hPl : PB < wk.heap.size := HP.out.lt
      have hXl : w.heap.size < wk.heap.size := HX.out.lt
      have hcB : B ≤ c := HD.out.lo c (by simp [bks])
      have hC := hide HD.out.at
      have c4 := hC.out.cell 4 (.bool q.f4) rfl; have c7 := hC.out.cell 7 (ptO (fstO ys none)) rfl
      cases hq4 : q.f4 with
      | true =>
        have hsb : sacB u x zs q = false := by unfold sacB; rw [hq4]; rfl
        have HSN : Hid (sacG u x zs ((xs ++ [(c, q)]).map Prod.snd) = s) := hide (by rw [HS.out, hsb]; simp)
        have HDn : chgN (sacF u x zs) (xs ++ [(c, q)]) ++ ys = chgN (sacF u x zs) xs ++ (c, q) :: ys := by
          have e : sacF u x zs q = q := by unfold sacF; rw [if_neg (by rw [hsb]; simp)]
          simp [chgN, e]
        have HPz := HP; have HXz := HX; have HBz := HB; have HCz := hC; have HFz := HFr
        have HDz : Hid (DL wk B L u x (chgN (sacF u x zs) (xs ++ [(c, q)]) ++ ys)) := hide (by rw [HDn]; exact HD.out)
        rw [hq4] at c4
        clear HP HX HB HD hC
        go_upto_region 7 with fail
        clear c4 c7 x0'
        have p0 := HPz.out.cell 0 (.pointer (some ⟨c, 0, none⟩)) rfl
        have hal := (Below.refl wk.heap.size wk).alloc (Nat.le_refl _) (.cells #[.pointer (some ⟨c, 0, none⟩)] 71)
        have HNB : Hid (HoldV (wk.alloc (.cells #[.pointer (some ⟨c, 0, none⟩)] 71)) wk.heap.size #[.pointer (some ⟨c, 0, none⟩)] 71) := hide (hv_new wk #[.pointer (some ⟨c, 0, none⟩)] 71)
        have n0 := HNB.out.cell 0 _ rfl; have nf := HNB.out.frozen
        have hXz : w.heap.size < wk.heap.size := HXz.out.lt
        have HD4 := hide (HDz.out.next hal); have HX4 := hide (HXz.out.next hal); have HB4 : Hid (Below B w _) := hide (HBz.out.trans (hal.mono (by have := HBz.out.size; omega)))
        have c7 : (wk.alloc (.cells #[.pointer (some ⟨c, 0, none⟩)] 71)).cell? ⟨c, 7, none⟩ = some (ptO (fstO ys none)) := (HCz.out.next hal).cell 7 _ rfl
        have hal2 := (Below.refl wk.heap.size wk).alloc (Nat.le_refl _) (.cells #[ptO (fstO ys none)] 71)
        have HX5 := hide (HXz.out.next hal2)
        have HD5 := hide (HDz.out.next hal2)
        have HP5 : Hid (HoldV (wk.alloc (.cells #[ptO (fstO ys none)] 71)) wk.heap.size #[ptO (fstO ys none)] 71) := hide (hv_new wk #[ptO (fstO ys none)] 71)
        have HB5 : Hid (Below B w _) := hide (HBz.out.trans (hal2.mono (by have := HBz.out.size; omega)))
        have HF5 : Hid (Fr (L :: bks ns) w _) := hide (HFz.out.trans (Fr.below hal2))
        have k5 := ptAt_eq (HP5.out.cell 0 (ptO (fstO ys none)) rfl)
        have k6 : posOf (bks ns) (ptAt (wk.alloc (.cells #[ptO (fstO ys none)] 71)) (.pointer (some ⟨wk.heap.size, 0, none⟩))) = ys.length := by rw [k5, HP2.out]
        clear hal hal2 k5 HD4 HX4 HB4 HDz HXz HBz HPz HCz
        go_wp2_with fail
        exact ⟨⟨xs ++ [(c, q)], ys, wk.heap.size, HXY2, by rw [HSN.out], rfl, by omega, HP5, HX5, HD5, HB5, HF5⟩, by rw [HP1.out]; exact Nat.lt_of_le_of_lt (Nat.le_of_eq k6) (Nat.lt_succ_self _)⟩
      | false =>
        have CW := hide (containsSt_walk w.heap.size PB L c u x _ q _ _ aq nq cq zs wk x0' hXl p0 hPl HD.out.head hC.out HN.out (HA0.out wk HB.out) hm)
        rw [hq4] at c4
        go_wp2_with fail
        refine CW.out.mono ?_
        rintro e wj ⟨rfl, hb3⟩
        have HPj := hide (HP.out.next hb3); have HXj := hide (HX.out.next hb3); have HDj := hide (HD.out.next hb3); have HCj := hide (hC.out.next hb3); have HBj : Hid (Below B w wj) := hide (HB.out.trans (hb3.mono (by have := HB.out.size; omega)))
        have hjs := hb3.size
        have HFj : Hid (Fr (L :: bks ns) w wj) := hide (HFr.out.trans (Fr.below hb3))
        clear HP HX HD hC HB CW c4 c7 p0 x0' hb3
        cases hwi : wiB u x q.f0 q.f1 zs with
        | false =>
          have hsb : sacB u x zs q = false := by unfold sacB; rw [hwi, Bool.and_false]
          have HSN : Hid (sacG u x zs ((xs ++ [(c, q)]).map Prod.snd) = s) := hide (by rw [HS.out, hsb]; simp)
          have HDn : chgN (sacF u x zs) (xs ++ [(c, q)]) ++ ys = chgN (sacF u x zs) xs ++ (c, q) :: ys := by
            have e : sacF u x zs q = q := by unfold sacF; rw [if_neg (by rw [hsb]; simp)]
            simp [chgN, e]
          have HPz := HPj; have HXz := HXj; have HBz := HBj; have HCz := HCj; have HFz := HFj
          have HDz : Hid (DL wj B L u x (chgN (sacF u x zs) (xs ++ [(c, q)]) ++ ys)) := hide (by rw [HDn]; exact HDj.out)
          clear HPj HXj HBj HCj HDj
          go_upto_region 7 with fail
          have p0 := HPz.out.cell 0 (.pointer (some ⟨c, 0, none⟩)) rfl
          have hal := (Below.refl wj.heap.size wj).alloc (Nat.le_refl _) (.cells #[.pointer (some ⟨c, 0, none⟩)] 71)
          have HNB : Hid (HoldV (wj.alloc (.cells #[.pointer (some ⟨c, 0, none⟩)] 71)) wj.heap.size #[.pointer (some ⟨c, 0, none⟩)] 71) := hide (hv_new wj #[.pointer (some ⟨c, 0, none⟩)] 71)
          have n0 := HNB.out.cell 0 _ rfl; have nf := HNB.out.frozen
          have hXz : w.heap.size < wj.heap.size := HXz.out.lt
          have HD4 := hide (HDz.out.next hal); have HX4 := hide (HXz.out.next hal); have HB4 : Hid (Below B w _) := hide (HBz.out.trans (hal.mono (by have := HBz.out.size; omega)))
          have c7 : (wj.alloc (.cells #[.pointer (some ⟨c, 0, none⟩)] 71)).cell? ⟨c, 7, none⟩ = some (ptO (fstO ys none)) := (HCz.out.next hal).cell 7 _ rfl
          have hal2 := (Below.refl wj.heap.size wj).alloc (Nat.le_refl _) (.cells #[ptO (fstO ys none)] 71)
          have HX5 := hide (HXz.out.next hal2)
          have HD5 := hide (HDz.out.next hal2)
          have HP5 : Hid (HoldV (wj.alloc (.cells #[ptO (fstO ys none)] 71)) wj.heap.size #[ptO (fstO ys none)] 71) := hide (hv_new wj #[ptO (fstO ys none)] 71)
          have HB5 : Hid (Below B w _) := hide (HBz.out.trans (hal2.mono (by have := HBz.out.size; omega)))
          have HF5 : Hid (Fr (L :: bks ns) w _) := hide (HFz.out.trans (Fr.below hal2))
          have k5 := ptAt_eq (HP5.out.cell 0 (ptO (fstO ys none)) rfl)
          have k6 : posOf (bks ns) (ptAt (wj.alloc (.cells #[ptO (fstO ys none)] 71)) (.pointer (some ⟨wj.heap.size, 0, none⟩))) = ys.length := by rw [k5, HP2.out]
          clear hal hal2 k5 HD4 HX4 HB4 HDz HXz HBz HPz HCz
          go_wp2_with fail
          exact ⟨⟨xs ++ [(c, q)], ys, wj.heap.size, HXY2, by rw [HSN.out], rfl, by omega, HP5, HX5, HD5, HB5, HF5⟩, by rw [HP1.out]; exact Nat.lt_of_le_of_lt (Nat.le_of_eq k6) (Nat.lt_succ_self _)⟩
        | true =>
          have hsb : sacB u x zs q = true := by unfold sacB; rw [hwi, hq4]; rfl
          have HSN : Hid (sacG u x zs ((xs ++ [(c, q)]).map Prod.snd) = s + (q.f1 - q.f0)) := hide (by rw [HS.out, hsb]; simp)
          have HDn : chgN (sacF u x zs) (xs ++ [(c, q)]) ++ ys = chgN (sacF u x zs) xs ++ (c, ⟨q.f0, q.f1, q.f2, q.f3, true, false⟩) :: ys := by
            have e : sacF u x zs q = ⟨q.f0, q.f1, q.f2, q.f3, true, false⟩ := by unfold sacF; rw [if_pos hsb]
            simp [chgN, e]
          have CM := hide (markSacked_walk c q _ _ wj HCj.out q0 q1 q2)
          have p0 := HPj.out.cell 0 (.pointer (some ⟨c, 0, none⟩)) rfl
          have w1' : IntKind.i64.wrap (s + (q.f1 - q.f0)) = s + (q.f1 - q.f0) := by rw [IntKind.wrap_i64]; omega
          go_wp2_with fail
          refine CM.out.mono ?_
          rintro e wz ⟨rfl, hc3, hg3⟩
          have HCz := hide hc3
          have HDz : Hid (DL wz B L u x (chgN (sacF u x zs) (xs ++ [(c, q)]) ++ ys)) := hide (by
            rw [HDn]
            exact HDj.out.put (o' := ⟨q.f0, q.f1, q.f2, q.f3, true, false⟩) hc3 (fun k hk hlt => hg3.block k hlt (fun e => hk (Option.some.inj e))))
          have HPz := hide (hv_gr HPj.out hg3 (by omega)); have HXz := hide (hv_gr HXj.out hg3 (by omega))
          have HFz : Hid (Fr (L :: bks ns) w wz) := hide (HFj.out.trans (Fr.grown hg3 (by rw [HXY.out]; simp [bks])))
          have HBz : Hid (Below B w wz) := hide (below_gr HBj.out hg3 (by have := HBj.out.size; omega) hcB)
          clear HPj HXj HBj HCj HDj CM p0 hc3 hg3
          go_upto_region 7 with fail
          have p0 := HPz.out.cell 0 (.pointer (some ⟨c, 0, none⟩)) rfl
          have hal := (Below.refl wz.heap.size wz).alloc (Nat.le_refl _) (.cells #[.pointer (some ⟨c, 0, none⟩)] 71)
          have HNB : Hid (HoldV (wz.alloc (.cells #[.pointer (some ⟨c, 0, none⟩)] 71)) wz.heap.size #[.pointer (some ⟨c, 0, none⟩)] 71) := hide (hv_new wz #[.pointer (some ⟨c, 0, none⟩)] 71)
          have n0 := HNB.out.cell 0 _ rfl; have nf := HNB.out.frozen
          have hXz : w.heap.size < wz.heap.size := HXz.out.lt
          have HD4 := hide (HDz.out.next hal); have HX4 := hide (HXz.out.next hal); have HB4 : Hid (Below B w _) := hide (HBz.out.trans (hal.mono (by have := HBz.out.size; omega)))
          have c7 : (wz.alloc (.cells #[.pointer (some ⟨c, 0, none⟩)] 71)).cell? ⟨c, 7, none⟩ = some (ptO (fstO ys none)) := (HCz.out.next hal).cell 7 _ rfl
          have hal2 := (Below.refl wz.heap.size wz).alloc (Nat.le_refl _) (.cells #[ptO (fstO ys none)] 71)
          have HX5 := hide (HXz.out.next hal2)
          have HD5 := hide (HDz.out.next hal2)
          have HP5 : Hid (HoldV (wz.alloc (.cells #[ptO (fstO ys none)] 71)) wz.heap.size #[ptO (fstO ys none)] 71) := hide (hv_new wz #[ptO (fstO ys none)] 71)
          have HB5 : Hid (Below B w _) := hide (HBz.out.trans (hal2.mono (by have := HBz.out.size; omega)))
          have HF5 : Hid (Fr (L :: bks ns) w _) := hide (HFz.out.trans (Fr.below hal2))
          have k5 := ptAt_eq (HP5.out.cell 0 (ptO (fstO ys none)) rfl)
          have k6 : posOf (bks ns) (ptAt (wz.alloc (.cells #[ptO (fstO ys none)] 71)) (.pointer (some ⟨wz.heap.size, 0, none⟩))) = ys.length := by rw [k5, HP2.out]
          clear hal hal2 k5 HD4 HX4 HB4 HDz HXz HBz HPz HCz
          go_wp2_with fail
          exact ⟨⟨xs ++ [(c, q)], ys, wz.heap.size, HXY2, by rw [HSN.out], rfl, by omega, HP5, HX5, HD5, HB5, HF5⟩, by rw [HP1.out]; exact Nat.lt_of_le_of_lt (Nat.le_of_eq k6) (Nat.lt_succ_self _)⟩
set_option maxRecDepth 100000
theorem sac_ackH (ack x : Int) (zs : List Int) : ∀ os : List PieceM, (ackH ack os).map (sacF ack x zs) = ackL ack x zs os ∧ sacG ack x zs (ackH ack os) = ackG ack x zs os
  | [] => ⟨rfl, rfl⟩
  | o :: r => by
    obtain ⟨h1, h2⟩ := sac_ackH ack x zs r
    by_cases h : ack < o.f1
    · have e : sacF ack x zs (cutP ack o) = ackF ack x zs o := rfl
      rw [ackH_cons h, List.map_cons, e, h1, show o :: r = [o] ++ r from rfl, ackL_app, ack_keep (Int.not_le.2 h), ackG_app]
      refine ⟨rfl, ?_⟩
      show (if sacB ack x zs (cutP ack o) = true then o.f1 - max o.f0 ack else 0) + sacG ack x zs (ackH ack r) = ((if ack < o.f1 ∧ nwB ack x zs o = true then o.f1 - max o.f0 ack else 0) + 0) + ackG ack x zs r
      rw [h2, Int.add_zero, show sacB ack x zs (cutP ack o) = nwB ack x zs o from rfl]
      by_cases hc : nwB ack x zs o = true
      · rw [if_pos hc, if_pos ⟨h, hc⟩]
      · rw [if_neg hc, if_neg (fun hh => hc hh.2)]
    · have h3 := Int.not_lt.1 h
      rw [show o :: r = [o] ++ r from rfl, ackH_app, ackH_gone [o] (by intro p hp; simp at hp; subst hp; exact h3), List.nil_append, ackL_app, (ack_gone (ack := ack) (x := x) (zs := zs) (p := o) h3).1, ackG_app, (ack_gone (ack := ack) (x := x) (zs := zs) (p := o) h3).2, List.nil_append, Int.zero_add]
      exact ⟨h1, h2⟩

set_option maxHeartbeats 16000000 in
theorem implAck_yes {u x : Int} {os : List PieceM} (ack : Int) (zs : List Int) (hok : bOK u x os) (hs : u ≤ ack ∧ ack ≤ x) (hz : zs.length ≤ 6) : BoardAckP 12 (fun _ => True) u x os ack zs ack x (ackL ack x zs os) (ack - u) (ackG ack x zs os) (ackS ack os) 0 := by
  intro a n cap aq nq cq w hn ha hc hm hn2 ha2 hc2 hm2 _
  obtain ⟨hb3, hX, hRA, hRB⟩ := three_boxes w #[.int .i64 u, .int .i64 x, .slice a n cap] #[.int .i64 0, .int .i64 0, .slice none 0 0] #[.int .i64 0, .int .i64 0, .int .i64 0] 29 29 39
  have HB2 := hide hb3; have HX := hide hX; have HRA := hide hRA; have HRB := hide hRB
  have k0 := hX.cell 0 _ rfl; have k1 := hX.cell 1 _ rfl; have k2 := hX.cell 2 _ rfl
  have CV := hide (newPieceList_yes u x a n cap os (((w.alloc (.cells #[.int .i64 u, .int .i64 x, .slice a n cap] 29)).alloc (.cells #[.int .i64 0, .int .i64 0, .slice none 0 0] 29)).alloc (.cells #[.int .i64 0, .int .i64 0, .int .i64 0] 39)) hn (ha.below hb3 (Nat.le_refl _)) hm hok)
  have HOK := hide hok; have HZ0 := hide ha2; have HNZ := hide hn2; have HMZ := hide hm2
  have hV : w.heap.size + 2 < (((w.alloc (.cells #[.int .i64 u, .int .i64 x, .slice a n cap] 29)).alloc (.cells #[.int .i64 0, .int .i64 0, .slice none 0 0] 29)).alloc (.cells #[.int .i64 0, .int .i64 0, .int .i64 0] 39)).heap.size := hRB.lt
  obtain ⟨kk1, kk2⟩ := hs
  have hu0 : 0 ≤ u := hok.1
  have hx0 : x ≤ 1099511627776 := hok.2.1
  have hnq : (nq : Int) ≤ 3 := by omega
  have hwu : IntKind.i64.wrap (ack - u) = ack - u := by rw [IntKind.wrap_i64]; omega
  have HLL : Hid ((ackL ack x zs os).length ≤ 1048576) := hide (by have h1 := ackL_len ack x zs os; have h2 := hok.2.2.1; omega)
  obtain ⟨G, hG⟩ : ∃ G, G = ackG ack x zs os := ⟨_, rfl⟩
  obtain ⟨S, hS⟩ : ∃ S, S = ackS ack os := ⟨_, rfl⟩
  rw [← hG, ← hS]
  have HG := hide hG; have HS := hide hS
  clear hn ha ha2 hn2 hm2 hok hb3 hX hRA hRB hz hG hS
  go_enter Try.func12, Try.ntmps12
  go_wp2_with fail
  generalize ((w.alloc (.cells #[.int .i64 u, .int .i64 x, .slice a n cap] 29)).alloc (.cells #[.int .i64 0, .int .i64 0, .slice none 0 0] 29)).alloc (.cells #[.int .i64 0, .int .i64 0, .int .i64 0] 39) = V at *
  refine CV.out.mono ?_
  rintro e w1 ⟨L, ns, rfl, hD, hM, hw1⟩
  have HX1 := hide (HX.out.next hw1); have HRA1 := hide (HRA.out.next hw1); have HRB1 := hide (HRB.out.next hw1)
  have HB1 : Hid (Below w.heap.size w w1) := hide (HB2.out.trans (hw1.mono HB2.out.size))
  have hV1 : V.heap.size ≤ w1.heap.size := hw1.size
  have HD1 := hide hD; have HM1 := hide hM
  clear hD hM hw1 CV k0 k1 k2 HB2 HX HRA HRB
  have k0 := HX1.out.cell 0 _ rfl; have k1 := HX1.out.cell 1 _ rfl; have k2 := HX1.out.cell 2 _ rfl
  go_upto_region 4 with fail
  have hal := (Below.refl w1.heap.size w1).alloc (Nat.le_refl _) (.cells #[.int .i64 (ack - u), .int .i64 0, .int .i64 0] 39)
  have HNB : Hid (HoldV (w1.alloc (.cells #[.int .i64 (ack - u), .int .i64 0, .int .i64 0] 39)) w1.heap.size #[.int .i64 (ack - u), .int .i64 0, .int .i64 0] 39) := hide (hv_new w1 #[.int .i64 (ack - u), .int .i64 0, .int .i64 0] 39)
  have HX2 := hide (HX1.out.next hal); have HRA2 := hide (HRA1.out.next hal); have HRB2 := hide (HRB1.out.next hal); have HD2 := hide (HD1.out.next hal); have HB2 : Hid (Below w.heap.size w _) := hide (HB1.out.trans (hal.mono HB1.out.size))
  have HNL : Hid (w1.heap.size ∉ L :: bks ns) := hide (fun h => by have := HD1.out.lt _ h; omega)
  have CA := hide (acknowledge_walk V.heap.size L u x ack ns (w1.alloc (.cells #[.int .i64 (ack - u), .int .i64 0, .int .i64 0] 39)) HD2.out (by have := hal.size; omega) (by rw [HM1.out]; exact HOK.out) kk1)
  rw [HM1.out, ← HS.out] at CA
  have hsz := World.size_alloc w1 (.cells #[.int .i64 (ack - u), .int .i64 0, .int .i64 0] 39)
  clear hal HX1 HRA1 HRB1 HB1 HD1
  go_wp2_with fail
  clear k0 k1 k2
  generalize w1.alloc (.cells #[.int .i64 (ack - u), .int .i64 0, .int .i64 0] 39) = W2 at *
  refine CA.out.mono ?_
  rintro e w3 ⟨ns2, rfl, hD3, hM3, hb3, hf3, hsub⟩
  obtain ⟨NB, hNB⟩ : ∃ NB, NB = w1.heap.size := ⟨_, rfl⟩
  rw [← hNB] at HNB HNL hsz
  have hVN : V.heap.size ≤ NB := by omega
  have hN2 : NB < W2.heap.size := by omega
  have HNL2 : Hid (NB ∉ L :: bks ns2) := hide (fun h => HNL.out ((List.mem_cons.1 h).elim (fun h => List.mem_cons.2 (.inl h)) (fun h => List.mem_cons.2 (.inr (hsub _ h)))))
  have HN3 : Hid (HoldV w3 NB #[.int .i64 (ack - u), .int .i64 0, .int .i64 0] 39) := hide ((hf3.2 NB hN2 HNL.out).trans HNB.out)
  have HX3 := hide (HX2.out.below hb3 (by omega)); have HRA3 := hide (HRA2.out.below hb3 (by omega)); have HRB3 := hide (HRB2.out.below hb3 (by omega))
  have HB3 : Hid (Below w.heap.size w w3) := hide (HB2.out.trans (hb3.mono (by omega)))
  have hs3 := hf3.1
  have n2 := HN3.out.cell 2 _ rfl; have nf := HN3.out.frozen
  have hg : w3.grownBy (w3.setCell ⟨NB, 2, none⟩ (.int .i64 S)) (some NB) := gr_set (grown_reflp _ _) 2 _
  have HX4 := hide (hv_gr HX3.out hg (by omega)); have HRA4 := hide (hv_gr HRA3.out hg (by omega)); have HRB4 := hide (hv_gr HRB3.out hg (by omega))
  have HN4 : Hid (HoldV (w3.setCell ⟨NB, 2, none⟩ (.int .i64 S)) NB #[.int .i64 (ack - u), .int .i64 0, .int .i64 S] 39) := hide (hv_set HN3.out 2 (.int .i64 S))
  have HD4 : Hid (DL (w3.setCell ⟨NB, 2, none⟩ (.int .i64 S)) V.heap.size L ack x ns2) := hide (hD3.frame (fun b hb => hg.block b (hD3.lt b hb) (fun e => HNL2.out (by rw [← Option.some.inj e]; exact hb))))
  have HB4 : Hid (Below w.heap.size w (w3.setCell ⟨NB, 2, none⟩ (.int .i64 S))) := hide (below_gr HB3.out hg HB3.out.size (by omega))
  have HV4 : (w3.setCell ⟨NB, 2, none⟩ (.int .i64 S)).heap.size = w3.heap.size := World.size_setCell _ _ _
  have hVE : sacG ack x zs (ns2.map Prod.snd) = G := by rw [hM3, HG.out]; exact (sac_ackH ack x zs os).2
  have HLE : Hid ((chgN (sacF ack x zs) ns2).map Prod.snd = ackL ack x zs os) := hide (by rw [chgN_snd, hM3]; exact (sac_ackH ack x zs os).1)
  have CS := hide (sack_walk V.heap.size L ack x ns2 aq nq cq zs w (w3.setCell ⟨NB, 2, none⟩ (.int .i64 S)) HD4.out (by omega) (by rw [hM3]; exact ackH_ok HOK.out kk1 kk2) HNZ.out HZ0.out (by omega) HB4.out HMZ.out)
  rw [hVE] at CS
  have hNw : NB < w3.heap.size := by omega
  clear hD3 hM3 hb3 hf3 hsub CA hVE hg HX3 HRA3 HRB3 HN3 HB3 HNB HX2 HRA2 HRB2 HB2 HD2 HD4
  simp only [← hNB]
  clear hNB
  go_wp2_with fail
  clear n2 nf
  generalize w3.setCell ⟨NB, 2, none⟩ (.int .i64 S) = W4 at *
  refine CS.out.mono ?_
  rintro e w5 ⟨rfl, hD5, hb5, hf5⟩
  have HN5 : Hid (HoldV w5 NB #[.int .i64 (ack - u), .int .i64 0, .int .i64 S] 39) := hide ((hf5.2 NB (by omega) HNL2.out).trans HN4.out)
  have HX5 := hide (HX4.out.below hb5 (by omega)); have HRA5 := hide (HRA4.out.below hb5 (by omega)); have HRB5 := hide (HRB4.out.below hb5 (by omega))
  have HB5 : Hid (Below w.heap.size w w5) := hide (HB4.out.trans (hb5.mono (by omega)))
  have hs5 := hf5.1
  have n1 := HN5.out.cell 1 _ rfl; have nf := HN5.out.frozen
  have hg : w5.grownBy (w5.setCell ⟨NB, 1, none⟩ (.int .i64 G)) (some NB) := gr_set (grown_reflp _ _) 1 _
  have HRA6 := hide (hv_gr HRA5.out hg (by omega)); have HRB6 := hide (hv_gr HRB5.out hg (by omega))
  have HN6 : Hid (HoldV (w5.setCell ⟨NB, 1, none⟩ (.int .i64 G)) NB #[.int .i64 (ack - u), .int .i64 G, .int .i64 S] 39) := hide (hv_set HN5.out 1 (.int .i64 G))
  have HD6 : Hid (DL (w5.setCell ⟨NB, 1, none⟩ (.int .i64 G)) V.heap.size L ack x (chgN (sacF ack x zs) ns2)) := hide (hD5.frame (fun b hb => hg.block b (hD5.lt b hb) (fun e => HNL2.out (by rw [← Option.some.inj e]; rw [chgN_bks] at hb; exact hb))))
  have HB6 : Hid (Below w.heap.size w (w5.setCell ⟨NB, 1, none⟩ (.int .i64 G))) := hide (below_gr HB5.out hg HB5.out.size (by omega))
  have HV6 : (w5.setCell ⟨NB, 1, none⟩ (.int .i64 G)).heap.size = w5.heap.size := World.size_setCell _ _ _
  clear hD5 hb5 hf5 CS hg HX4 HX5 HRA4 HRB4 HN4 HRA5 HRB5 HN5 HB4 HB5
  go_upto_region 7 with fail
  clear n1 nf
  generalize w5.setCell ⟨NB, 1, none⟩ (.int .i64 G) = W6 at *
  have hlen : (chgN (sacF ack x zs) ns2).length ≤ 1048576 := by have h := congrArg List.length HLE.out; rw [List.length_map] at h; rw [h]; exact HLL.out
  have CB := hide (board_walk _ L ack x (chgN (sacF ack x zs) ns2) W6.drew HD6.out.drew hlen)
  rw [HLE.out] at CB
  obtain ⟨ln, hln⟩ : ∃ ln, ln = (ackL ack x zs os).length := ⟨_, rfl⟩
  have HLEN := hide hln
  clear hln hlen
  have m0 := HN6.out.cell 0 _ rfl; have m1 := HN6.out.cell 1 _ rfl; have m2 := HN6.out.cell 2 _ rfl
  have hne1 : NB ≠ w.heap.size + 1 := by omega
  have hne2 : NB ≠ w.heap.size + 2 := by omega
  have hRl := HRB6.out.lt
  go_region_with (go_at_call 28; go_loud (refine CB.out.mono ?_; rintro e w7 ⟨v, rfl, hO, hw7⟩; obtain ⟨bz, nz, hv, _⟩ := arrP_own hO; rw [← HLEN.out] at hv; subst hv; have HR7 := hide (HRA6.out.next (below_drew hw7)); have HQ7 := hide (HRB6.out.next (below_drew hw7)); have HN7 := hide (HN6.out.next (below_drew hw7)); have d0 := HN7.out.cell 0 _ rfl; have d1 := HN7.out.cell 1 _ rfl; have d2 := HN7.out.cell 2 _ rfl; have r0 := HR7.out.cell 0 _ rfl; have r1 := HR7.out.cell 1 _ rfl; have r2 := HR7.out.cell 2 _ rfl; have rf := HR7.out.frozen; have q0 := HQ7.out.cell 0 _ rfl; have q1 := HQ7.out.cell 1 _ rfl; have q2 := HQ7.out.cell 2 _ rfl; have qf := HQ7.out.frozen))
  all_goals
    have HO7 := hide (ownP_mono hO (C := w.heap.size + 3) (by show w.heap.size + 3 ≤ W6.heap.size; omega))
    have HB7 : Hid (Below w.heap.size w w7) := hide (HB6.out.trans ((below_drew hw7).mono HB6.out.size))
    clear hO hw7
    go_wp2_with fail
    exact bodyPost_ret (v := .tuple #[.agg #[.int .i64 ack, .int .i64 x, .slice bz ln nz], .agg #[.int .i64 (ack - u), .int .i64 G, .int .i64 S], .int .i64 0]) (by simp [results, Try.results12, go_sem, r0, r1, r2, q0, q1, q2]) rfl ⟨_, rfl, ownP_mono (ownP_gr (ownP_gr HO7.out (gr_set (gr_set (gr_set (grown_reflp _ _) 0 _) 1 _) 2 _) (by omega)) (g := w.heap.size + 2) (gr_set (gr_set (gr_set (grown_reflp _ _) 0 _) 1 _) 2 _) (by omega)) (by omega), below_gr (below_gr HB7.out (gr_set (gr_set (gr_set (grown_reflp _ _) 0 _) 1 _) 2 _) HB7.out.size (Nat.le_succ _)) (Y := w.heap.size + 2) (gr_set (gr_set (gr_set (grown_reflp _ _) 0 _) 1 _) 2 _) (by simp; exact HB7.out.size) (by omega)⟩
set_option maxRecDepth 100000
set_option maxHeartbeats 16000000 in
theorem implAck_form {u x : Int} {os : List PieceM} (ack : Int) (zs : List Int) (hok : bOK u x os) (hf : ¬ ((u ≤ ack ∧ ack ≤ x) ∧ zs.length ≤ 6)) : BoardAckP 12 (fun _ => True) u x os ack zs 0 0 [] 0 0 0 1 := by
  intro a n cap aq nq cq w hn ha hc hm hn2 ha2 hc2 hm2 _
  obtain ⟨hb3, hX, hRA, hRB⟩ := three_boxes w #[.int .i64 u, .int .i64 x, .slice a n cap] #[.int .i64 0, .int .i64 0, .slice none 0 0] #[.int .i64 0, .int .i64 0, .int .i64 0] 29 29 39
  have HB2 := hide hb3; have HX := hide hX; have HRA := hide hRA; have HRB := hide hRB
  have k0 := hX.cell 0 _ rfl; have k1 := hX.cell 1 _ rfl; have k2 := hX.cell 2 _ rfl
  have CV := hide (newPieceList_yes u x a n cap os (((w.alloc (.cells #[.int .i64 u, .int .i64 x, .slice a n cap] 29)).alloc (.cells #[.int .i64 0, .int .i64 0, .slice none 0 0] 29)).alloc (.cells #[.int .i64 0, .int .i64 0, .int .i64 0] 39)) hn (ha.below hb3 (Nat.le_refl _)) hm hok)
  have hf2 : ack < u ∨ (¬ ack < u ∧ x < ack) ∨ ((¬ ack < u ∧ ¬ x < ack) ∧ 3 < (nq : Int)) := by omega
  clear hn ha hok hb3 hX hRA hRB hn2 ha2 hf
  rcases hf2 with e1 | ⟨e1, e2⟩ | ⟨⟨e1, e2⟩, e3⟩
  · go_enter Try.func12, Try.ntmps12
    go_wp2_with fail
    generalize ((w.alloc (.cells #[.int .i64 u, .int .i64 x, .slice a n cap] 29)).alloc (.cells #[.int .i64 0, .int .i64 0, .slice none 0 0] 29)).alloc (.cells #[.int .i64 0, .int .i64 0, .int .i64 0] 39) = V at *
    refine CV.out.mono ?_
    rintro e w1 ⟨L, ns, rfl, hD, hM, hw1⟩
    clear hD hM
    have HX1 := hide (HX.out.next hw1); have HRA1 := hide (HRA.out.next hw1); have HRB1 := hide (HRB.out.next hw1)
    have HB1 : Hid (Below w.heap.size w w1) := hide (HB2.out.trans (hw1.mono HB2.out.size))
    clear hw1 CV k0 k1 k2 HB2 HX HRA HRB
    have k0 := HX1.out.cell 0 _ rfl; have k1 := HX1.out.cell 1 _ rfl; have k2 := HX1.out.cell 2 _ rfl
    have r0 := HRA1.out.cell 0 _ rfl; have r1 := HRA1.out.cell 1 _ rfl; have r2 := HRA1.out.cell 2 _ rfl; have rf := HRA1.out.frozen
    have q0 := HRB1.out.cell 0 _ rfl; have q1 := HRB1.out.cell 1 _ rfl; have q2 := HRB1.out.cell 2 _ rfl; have qf := HRB1.out.frozen
    go_wp2_with fail
    exact bodyPost_ret (v := .tuple #[.agg #[.int .i64 0, .int .i64 0, .slice none 0 0], .agg #[.int .i64 0, .int .i64 0, .int .i64 0], .int .i64 1]) (by simp [results, Try.results12, go_sem, r0, r1, r2, q0, q1, q2]) rfl ⟨_, rfl, ownP_nil _ _, below_gr (below_gr HB1.out (gr_set (gr_set (gr_set (grown_reflp _ _) 0 _) 1 _) 2 _) HB1.out.size (Nat.le_succ _)) (Y := w.heap.size + 2) (gr_set (gr_set (gr_set (grown_reflp _ _) 0 _) 1 _) 2 _) (by simp; exact HB1.out.size) (by omega)⟩
  · go_enter Try.func12, Try.ntmps12
    go_wp2_with fail
    generalize ((w.alloc (.cells #[.int .i64 u, .int .i64 x, .slice a n cap] 29)).alloc (.cells #[.int .i64 0, .int .i64 0, .slice none 0 0] 29)).alloc (.cells #[.int .i64 0, .int .i64 0, .int .i64 0] 39) = V at *
    refine CV.out.mono ?_
    rintro e w1 ⟨L, ns, rfl, hD, hM, hw1⟩
    clear hD hM
    have HX1 := hide (HX.out.next hw1); have HRA1 := hide (HRA.out.next hw1); have HRB1 := hide (HRB.out.next hw1)
    have HB1 : Hid (Below w.heap.size w w1) := hide (HB2.out.trans (hw1.mono HB2.out.size))
    clear hw1 CV k0 k1 k2 HB2 HX HRA HRB
    have k0 := HX1.out.cell 0 _ rfl; have k1 := HX1.out.cell 1 _ rfl; have k2 := HX1.out.cell 2 _ rfl
    have r0 := HRA1.out.cell 0 _ rfl; have r1 := HRA1.out.cell 1 _ rfl; have r2 := HRA1.out.cell 2 _ rfl; have rf := HRA1.out.frozen
    have q0 := HRB1.out.cell 0 _ rfl; have q1 := HRB1.out.cell 1 _ rfl; have q2 := HRB1.out.cell 2 _ rfl; have qf := HRB1.out.frozen
    go_wp2_with fail
    exact bodyPost_ret (v := .tuple #[.agg #[.int .i64 0, .int .i64 0, .slice none 0 0], .agg #[.int .i64 0, .int .i64 0, .int .i64 0], .int .i64 1]) (by simp [results, Try.results12, go_sem, r0, r1, r2, q0, q1, q2]) rfl ⟨_, rfl, ownP_nil _ _, below_gr (below_gr HB1.out (gr_set (gr_set (gr_set (grown_reflp _ _) 0 _) 1 _) 2 _) HB1.out.size (Nat.le_succ _)) (Y := w.heap.size + 2) (gr_set (gr_set (gr_set (grown_reflp _ _) 0 _) 1 _) 2 _) (by simp; exact HB1.out.size) (by omega)⟩
  · go_enter Try.func12, Try.ntmps12
    go_wp2_with fail
    generalize ((w.alloc (.cells #[.int .i64 u, .int .i64 x, .slice a n cap] 29)).alloc (.cells #[.int .i64 0, .int .i64 0, .slice none 0 0] 29)).alloc (.cells #[.int .i64 0, .int .i64 0, .int .i64 0] 39) = V at *
    refine CV.out.mono ?_
    rintro e w1 ⟨L, ns, rfl, hD, hM, hw1⟩
    clear hD hM
    have HX1 := hide (HX.out.next hw1); have HRA1 := hide (HRA.out.next hw1); have HRB1 := hide (HRB.out.next hw1)
    have HB1 : Hid (Below w.heap.size w w1) := hide (HB2.out.trans (hw1.mono HB2.out.size))
    clear hw1 CV k0 k1 k2 HB2 HX HRA HRB
    have k0 := HX1.out.cell 0 _ rfl; have k1 := HX1.out.cell 1 _ rfl; have k2 := HX1.out.cell 2 _ rfl
    have r0 := HRA1.out.cell 0 _ rfl; have r1 := HRA1.out.cell 1 _ rfl; have r2 := HRA1.out.cell 2 _ rfl; have rf := HRA1.out.frozen
    have q0 := HRB1.out.cell 0 _ rfl; have q1 := HRB1.out.cell 1 _ rfl; have q2 := HRB1.out.cell 2 _ rfl; have qf := HRB1.out.frozen
    go_wp2_with fail
    exact bodyPost_ret (v := .tuple #[.agg #[.int .i64 0, .int .i64 0, .slice none 0 0], .agg #[.int .i64 0, .int .i64 0, .int .i64 0], .int .i64 1]) (by simp [results, Try.results12, go_sem, r0, r1, r2, q0, q1, q2]) rfl ⟨_, rfl, ownP_nil _ _, below_gr (below_gr HB1.out (gr_set (gr_set (gr_set (grown_reflp _ _) 0 _) 1 _) 2 _) HB1.out.size (Nat.le_succ _)) (Y := w.heap.size + 2) (gr_set (gr_set (gr_set (grown_reflp _ _) 0 _) 1 _) 2 _) (by simp; exact HB1.out.size) (by omega)⟩

set_option maxHeartbeats 16000000 in
theorem specAck_form {u x : Int} {os : List PieceM} (ack : Int) (zs : List Int) (hok : bOK u x os) (hf : ¬ ((u ≤ ack ∧ ack ≤ x) ∧ zs.length ≤ 6)) : BoardAckP 55 (fun _ => True) u x os ack zs 0 0 [] 0 0 0 1 := by
  intro a n cap aq nq cq w hn ha hc hm hn2 ha2 hc2 hm2 _
  obtain ⟨hb3, hX, hRA, hRB⟩ := three_boxes w #[.int .i64 u, .int .i64 x, .slice a n cap] #[.int .i64 0, .int .i64 0, .slice none 0 0] #[.int .i64 0, .int .i64 0, .int .i64 0] 29 29 39
  have HB2 := hide hb3; have HX := hide hX; have HRA := hide hRA; have HRB := hide hRB
  have k0 := hX.cell 0 _ rfl; have k1 := hX.cell 1 _ rfl; have k2 := hX.cell 2 _ rfl
  have CV := hide (l15OK_walk u x a n cap os (((w.alloc (.cells #[.int .i64 u, .int .i64 x, .slice a n cap] 29)).alloc (.cells #[.int .i64 0, .int .i64 0, .slice none 0 0] 29)).alloc (.cells #[.int .i64 0, .int .i64 0, .int .i64 0] 39)) hn (ha.below hb3 (Nat.le_refl _)) hm)
  rw [bokB_yes hok] at CV
  have hf2 : ack < u ∨ (¬ ack < u ∧ x < ack) ∨ ((¬ ack < u ∧ ¬ x < ack) ∧ 3 < (nq : Int)) := by omega
  clear hn ha hok hb3 hX hRA hRB hn2 ha2 hf
  rcases hf2 with e1 | ⟨e1, e2⟩ | ⟨⟨e1, e2⟩, e3⟩
  · have h1 : inB ack u x = false := decide_eq_false (fun h => by omega)
    go_enter Try.func55, Try.ntmps55
    go_wp2_with fail
    refine CV.out.mono ?_
    rintro e w1 ⟨rfl, hw1⟩
    have HX1 := hide (HX.out.next hw1); have HRA1 := hide (HRA.out.next hw1); have HRB1 := hide (HRB.out.next hw1)
    have HB1 : Hid (Below w.heap.size w w1) := hide (HB2.out.trans (hw1.mono HB2.out.size))
    clear hw1 CV k0 k1 k2 HB2 HX HRA HRB
    have k0 := HX1.out.cell 0 _ rfl; have k1 := HX1.out.cell 1 _ rfl; have k2 := HX1.out.cell 2 _ rfl
    have r0 := HRA1.out.cell 0 _ rfl; have r1 := HRA1.out.cell 1 _ rfl; have r2 := HRA1.out.cell 2 _ rfl; have rf := HRA1.out.frozen
    have q0 := HRB1.out.cell 0 _ rfl; have q1 := HRB1.out.cell 1 _ rfl; have q2 := HRB1.out.cell 2 _ rfl; have qf := HRB1.out.frozen
    go_wp2_with (go_at_call 23; refine (In_walk _ _ _ _).mono ?_; rintro e w9 ⟨rfl, hq⟩; rw [hq]; clear hq)
    exact bodyPost_ret (v := .tuple #[.agg #[.int .i64 0, .int .i64 0, .slice none 0 0], .agg #[.int .i64 0, .int .i64 0, .int .i64 0], .int .i64 1]) (by simp [results, Try.results55, go_sem, r0, r1, r2, q0, q1, q2]) rfl ⟨_, rfl, ownP_nil _ _, below_gr (below_gr HB1.out (gr_set (gr_set (gr_set (grown_reflp _ _) 0 _) 1 _) 2 _) HB1.out.size (Nat.le_succ _)) (Y := w.heap.size + 2) (gr_set (gr_set (gr_set (grown_reflp _ _) 0 _) 1 _) 2 _) (by simp; exact HB1.out.size) (by omega)⟩
  · have h1 : inB ack u x = false := decide_eq_false (fun h => by omega)
    go_enter Try.func55, Try.ntmps55
    go_wp2_with fail
    refine CV.out.mono ?_
    rintro e w1 ⟨rfl, hw1⟩
    have HX1 := hide (HX.out.next hw1); have HRA1 := hide (HRA.out.next hw1); have HRB1 := hide (HRB.out.next hw1)
    have HB1 : Hid (Below w.heap.size w w1) := hide (HB2.out.trans (hw1.mono HB2.out.size))
    clear hw1 CV k0 k1 k2 HB2 HX HRA HRB
    have k0 := HX1.out.cell 0 _ rfl; have k1 := HX1.out.cell 1 _ rfl; have k2 := HX1.out.cell 2 _ rfl
    have r0 := HRA1.out.cell 0 _ rfl; have r1 := HRA1.out.cell 1 _ rfl; have r2 := HRA1.out.cell 2 _ rfl; have rf := HRA1.out.frozen
    have q0 := HRB1.out.cell 0 _ rfl; have q1 := HRB1.out.cell 1 _ rfl; have q2 := HRB1.out.cell 2 _ rfl; have qf := HRB1.out.frozen
    go_wp2_with (go_at_call 23; refine (In_walk _ _ _ _).mono ?_; rintro e w9 ⟨rfl, hq⟩; rw [hq]; clear hq)
    exact bodyPost_ret (v := .tuple #[.agg #[.int .i64 0, .int .i64 0, .slice none 0 0], .agg #[.int .i64 0, .int .i64 0, .int .i64 0], .int .i64 1]) (by simp [results, Try.results55, go_sem, r0, r1, r2, q0, q1, q2]) rfl ⟨_, rfl, ownP_nil _ _, below_gr (below_gr HB1.out (gr_set (gr_set (gr_set (grown_reflp _ _) 0 _) 1 _) 2 _) HB1.out.size (Nat.le_succ _)) (Y := w.heap.size + 2) (gr_set (gr_set (gr_set (grown_reflp _ _) 0 _) 1 _) 2 _) (by simp; exact HB1.out.size) (by omega)⟩
  · have h1 : inB ack u x = true := inB_iff.2 ⟨by omega, by omega⟩
    go_enter Try.func55, Try.ntmps55
    go_wp2_with fail
    refine CV.out.mono ?_
    rintro e w1 ⟨rfl, hw1⟩
    have HX1 := hide (HX.out.next hw1); have HRA1 := hide (HRA.out.next hw1); have HRB1 := hide (HRB.out.next hw1)
    have HB1 : Hid (Below w.heap.size w w1) := hide (HB2.out.trans (hw1.mono HB2.out.size))
    clear hw1 CV k0 k1 k2 HB2 HX HRA HRB
    have k0 := HX1.out.cell 0 _ rfl; have k1 := HX1.out.cell 1 _ rfl; have k2 := HX1.out.cell 2 _ rfl
    have r0 := HRA1.out.cell 0 _ rfl; have r1 := HRA1.out.cell 1 _ rfl; have r2 := HRA1.out.cell 2 _ rfl; have rf := HRA1.out.frozen
    have q0 := HRB1.out.cell 0 _ rfl; have q1 := HRB1.out.cell 1 _ rfl; have q2 := HRB1.out.cell 2 _ rfl; have qf := HRB1.out.frozen
    go_wp2_with (go_at_call 23; refine (In_walk _ _ _ _).mono ?_; rintro e w9 ⟨rfl, hq⟩; rw [hq]; clear hq)
    exact bodyPost_ret (v := .tuple #[.agg #[.int .i64 0, .int .i64 0, .slice none 0 0], .agg #[.int .i64 0, .int .i64 0, .int .i64 0], .int .i64 1]) (by simp [results, Try.results55, go_sem, r0, r1, r2, q0, q1, q2]) rfl ⟨_, rfl, ownP_nil _ _, below_gr (below_gr HB1.out (gr_set (gr_set (gr_set (grown_reflp _ _) 0 _) 1 _) 2 _) HB1.out.size (Nat.le_succ _)) (Y := w.heap.size + 2) (gr_set (gr_set (gr_set (grown_reflp _ _) 0 _) 1 _) 2 _) (by simp; exact HB1.out.size) (by omega)⟩
set_option maxRecDepth 100000
/-- What is wanted of BoardLose. -/
def BoardLoseP (f : Nat) (Pre : World → Prop) (x0_0 : Int) (x0_1 : Int) (z0_0 : List PieceM) (y0_0 : Int) (y0_1 : Int) (L0_0 : List PieceM) (C1 : Int) (C2 : Int) : Prop :=
  ∀ (a0_0 : Option Addr) (n0_0 c0_0 : Nat) (W : World), z0_0.length = n0_0 → ArrP W a0_0 (z0_0.flatMap valPiece) → n0_0 ≤ c0_0 → n0_0 ≤ 1048576 → Pre W → Calls Try.prog f #[.agg #[.int .i64 x0_0, .int .i64 x0_1, .slice a0_0 n0_0 c0_0]] W fun e w' => ∃ v0_0 : Value, e = .returned (.tuple #[.agg #[.int .i64 y0_0, .int .i64 y0_1, v0_0], .int .i64 C1, .int .i64 C2]) ∧ OwnP w' W.heap.size v0_0 L0_0 ∧ Below W.heap.size W w'
set_option maxRecDepth 100000
/-- How many are Sacked. -/
def sackN : List PieceM → Nat
  | [] => 0
  | o :: r => (if o.f4 = true then 1 else 0) + sackN r
/-- Whether a piece must be lost, with these behind it. -/
def mustL (o : PieceM) (r : List PieceM) : Prop := o.f3 = 1 ∧ o.f4 = false ∧ o.f5 = false ∧ 3 ≤ sackN r
instance (o : PieceM) (r : List PieceM) : Decidable (mustL o r) := by unfold mustL; infer_instance
def loseL : List PieceM → List PieceM
  | [] => []
  | o :: r => (if mustL o r then lostP o else o) :: loseL r
def loseN : List PieceM → Int
  | [] => 0
  | o :: r => (if mustL o r then o.f1 - o.f0 else 0) + loseN r
theorem opLose_len : ∀ (os : List PieceM), (loseL os).length = os.length
  | [] => rfl
  | o :: r => by show (loseL r).length + 1 = r.length + 1; rw [opLose_len r]
theorem sackN_le : ∀ (os : List PieceM), sackN os ≤ os.length
  | [] => Nat.le_refl _
  | o :: r => by
    have := sackN_le r
    show (if o.f4 = true then 1 else 0) + sackN r ≤ r.length + 1
    split <;> omega
theorem lose_le : ∀ (a : List PieceM) (u m : Int), chk u a = some m → 0 ≤ loseN a ∧ loseN a ≤ m - u
  | [], u, m, h => by cases h; simp [loseN]
  | o :: a, u, m, h => by
    by_cases hh : o.f0 = u ∧ vp o
    · rw [chk_cons hh.1 hh.2] at h
      have h1 := lose_le a _ _ h
      have h2 := hh.2.1
      unfold loseN
      split <;> omega
    · rw [chk_ill hh] at h; cases h
theorem bOK_tail {u x : Int} {a b : List PieceM} (h : bOK u x (a ++ b)) : 0 ≤ loseN b ∧ loseN b ≤ 1099511627776 := by
  obtain ⟨m, h1, h2⟩ := chk_app a b _ _ h.2.2.2
  have h3 := lose_le _ _ _ h2
  have h4 := chk_le _ _ _ h1
  have := h.1; have := h.2.1
  omega
/-- Where a pointer to a linked piece stands: how many are left up to it. -/
def posB (bs : List Nat) (t : Value) : Nat := match t with
  | .pointer (some p) => bs.idxOf p.block + 1
  | _ => 0
theorem posB_at {xs ys : List (Nat × PieceM)} {L c : Nat} {q : PieceM} (h : (L :: bks (xs ++ (c, q) :: ys)).Nodup) : posB (bks (xs ++ (c, q) :: ys)) (.pointer (some ⟨c, 0, none⟩)) = xs.length + 1 := by
  obtain ⟨h1, _⟩ := nd_mid h
  show (bks (xs ++ (c, q) :: ys)).idxOf c + 1 = _
  have e : bks (xs ++ (c, q) :: ys) = bks xs ++ c :: bks ys := by simp [bks]
  rw [e, List.idxOf_append, if_neg h1, List.idxOf_cons_self]
  simp [bks]
theorem posB_last {xs ys : List (Nat × PieceM)} {L : Nat} (h : (L :: bks (xs ++ ys)).Nodup) : posB (bks (xs ++ ys)) (ptO (lstO none xs)) = xs.length := by
  rcases List.eq_nil_or_concat xs with rfl | ⟨xs0, ⟨p, op⟩, rfl⟩
  · rfl
  · rw [List.concat_eq_append] at h ⊢
    rw [lstO_snoc, List.append_assoc] at *
    rw [List.length_append]
    exact posB_at h
set_option maxHeartbeats 16000000 in
theorem overtaken_walk (B L : Nat) (u x : Int) (ns : List (Nat × PieceM)) (w : World) (h : DL w B L u x ns) (hB : B ≤ w.heap.size) (hok : bOK u x (ns.map Prod.snd)) :
    Calls Try.prog 31 #[.pointer (some ⟨L, 0, none⟩)] w fun e w' => ∃ ns2, e = .returned (.int .i64 (loseN (ns.map Prod.snd))) ∧ DL w' B L u x ns2 ∧ ns2.map Prod.snd = loseL (ns.map Prod.snd) ∧ Below B w w' := by
  have HD0 := hide h; have HOK := hide hok
  have l4 := h.head.cell 4 _ rfl
  have HLN := hide h.nd
  have HS : Hid (∀ xs ys : List (Nat × PieceM), ns = xs ++ ys → sackN (ys.map Prod.snd) ≤ 4096 ∧ 0 ≤ loseN (ys.map Prod.snd) ∧ loseN (ys.map Prod.snd) ≤ 1099511627776) := hide (fun xs ys e => by
    have h1 := hok
    rw [e, List.map_append] at h1
    have h2 := bOK_tail h1
    have h3 := sackN_le (ys.map Prod.snd)
    have h4 := h1.2.2.1
    rw [List.length_append] at h4
    exact ⟨by omega, h2⟩)
  clear h hok
  go_enter Try.func31, Try.ntmps31
  go_wp2_with fail
  clear l4
  go_loopw [3, 4, 5] (fun s k t w2 => ∃ xs ys zs : List (Nat × PieceM), Hid (ns = xs ++ ys) ∧ t = ptO (lstO none xs) ∧ s = .int .i64 (loseN (ys.map Prod.snd)) ∧ k = .int .i64 ((sackN (ys.map Prod.snd) : Nat) : Int) ∧ Hid (zs.map Prod.snd = loseL (ys.map Prod.snd)) ∧ Hid (DL w2 B L u x (xs ++ zs)) ∧ Hid (Below B w w2)) (fun _ _ t _ => posB (bks ns) t)
  case atStart => exact ⟨ns, [], [], hide (by simp), rfl, rfl, rfl, hide rfl, hide (by rw [List.append_nil]; exact HD0.out), hide (Below.refl _ _)⟩
  case round =>
    obtain ⟨xs, ys, zs, HXY, rfl, rfl, rfl, HZ, HD, HB⟩ := hrel
    obtain ⟨b1, b2, b3⟩ := HS.out xs ys HXY.out
    rcases List.eq_nil_or_concat xs with hxs | ⟨xs0, ⟨c, q⟩, hxs⟩
    · subst hxs
      have HF : Hid (loseN (ys.map Prod.snd) = loseN (ns.map Prod.snd)) := hide (by rw [HXY.out]; rfl)
      have HZ2 : Hid (zs.map Prod.snd = loseL (ns.map Prod.snd)) := hide (by rw [HXY.out]; exact HZ.out)
      generalize loseN (ys.map Prod.snd) = s at *
      simp only [show ptO (lstO none ([] : List (Nat × PieceM))) = Value.pointer none from rfl]
      go_wp2_with fail
      go_ret
      exact ⟨zs, ret_int HF.out, HD.out, HZ2.out, HB.out⟩
    · rw [List.concat_eq_append] at hxs
      subst hxs
      have HXY2 : Hid (ns = xs0 ++ ((c, q) :: ys)) := hide (by rw [HXY.out]; simp)
      have HP1 : Hid (posB (bks ns) (.pointer (some ⟨c, 0, none⟩)) = xs0.length + 1) := hide (by rw [HXY2.out]; exact posB_at (by rw [← HXY2.out]; exact HLN.out))
      have HP2 : Hid (posB (bks ns) (ptO (lstO none xs0)) = xs0.length) := hide (by rw [HXY2.out]; exact posB_last (by rw [← HXY2.out]; exact HLN.out))
      have HD2 : Hid (DL wr B L u x (xs0 ++ (c, q) :: zs)) := hide (by have := HD.out; rw [List.append_assoc] at this; exact this)
      obtain ⟨b1', b2', b3'⟩ := HS.out xs0 _ HXY2.out
      obtain ⟨q0, q1, q2⟩ : 0 ≤ q.f0 ∧ q.f0 < q.f1 ∧ q.f1 ≤ 1099511627776 := bOK_piece HOK.out (by rw [HXY2.out]; simp)
      have HC := hide HD2.out.at
      have hcB : B ≤ c := HD2.out.lo c (by simp [bks])
      have hbs := HB.out.size
      have HN1 : Hid (loseN (((c, q) :: ys).map Prod.snd) = (if mustL q (ys.map Prod.snd) then q.f1 - q.f0 else 0) + loseN (ys.map Prod.snd)) := hide rfl
      have HN2 : Hid (sackN (((c, q) :: ys).map Prod.snd) = (if q.f4 = true then 1 else 0) + sackN (ys.map Prod.snd)) := hide rfl
      have HN3 : Hid (loseL (((c, q) :: ys).map Prod.snd) = (if mustL q (ys.map Prod.snd) then lostP q else q) :: loseL (ys.map Prod.snd)) := hide rfl
      have HMU : Hid (mustL q (ys.map Prod.snd) ↔ q.f3 = 1 ∧ q.f4 = false ∧ q.f5 = false ∧ 3 ≤ sackN (ys.map Prod.snd)) := hide Iff.rfl
      simp only [lstO_snoc, show ptO (some c) = Value.pointer (some ⟨c, 0, none⟩) from rfl]
      obtain ⟨x0, x1, x2, x3, x4, x5⟩ := q
      try dsimp only at q0 q1 q2
      have c0 := HC.out.cell 0 _ rfl; have c1 := HC.out.cell 1 _ rfl; have c2 := HC.out.cell 2 _ rfl; have c3 := HC.out.cell 3 _ rfl; have c4 := HC.out.cell 4 _ rfl; have c5 := HC.out.cell 5 _ rfl; have c6 := HC.out.cell 6 _ rfl
      try dsimp only at c0 c1 c2 c3 c4 c5
      clear b1' b2' b3' HXY HD
      generalize loseN (ys.map Prod.snd) = s at *
      generalize sackN (ys.map Prod.snd) = k at *
      have CW := hide (onWay_walk x0 x1 x2 x3 x4 x5 wr)
      by_cases hm : mustL (⟨x0, x1, x2, x3, x4, x5⟩ : PieceM) (ys.map Prod.snd)
      · obtain ⟨m1, m2, m3, m4⟩ := HMU.out.1 hm
        have hm1 : x3 = 1 := m1
        have hm2 : x4 = false := m2
        have hm3 : x5 = false := m3
        subst hm1 hm2 hm3
        have HNA : Hid (loseN (((c, (⟨x0, x1, x2, 1, false, false⟩ : PieceM)) :: ys).map Prod.snd) = s + (x1 - x0)) := hide (by rw [HN1.out, if_pos hm]; show x1 - x0 + s = _; omega)
        have HNB : Hid (((sackN (((c, (⟨x0, x1, x2, 1, false, false⟩ : PieceM)) :: ys).map Prod.snd) : Nat) : Int) = (k : Int)) := hide (by rw [HN2.out]; simp)
        have HNC : Hid (((c, lostP (⟨x0, x1, x2, 1, false, false⟩ : PieceM)) :: zs).map Prod.snd = loseL (((c, (⟨x0, x1, x2, 1, false, false⟩ : PieceM)) :: ys).map Prod.snd)) := hide (by rw [HN3.out, if_pos hm, ← HZ.out]; rfl)
        have m4' : (3 : Int) ≤ (k : Int) := by omega
        clear hm m1 m2 m3 m4 HMU HN1 HN2 HN3
        go_wp2_with (go_at_call 41; refine CW.out.mono ?_; rintro e w3 ⟨rfl, hw3⟩; have c3' := (HC.out.next hw3).cell 3 (.int .i64 1) rfl)
        have CM := hide (markLost_walk c ⟨x0, x1, x2, 1, false, false⟩ _ _ w3 (HC.out.next hw3) q0 q1 q2)
        have hws := hw3.size
        refine CM.out.mono ?_
        rintro e w4 ⟨rfl, hc4, hg4⟩
        have HD4 : Hid (DL w4 B L u x (xs0 ++ (c, lostP (⟨x0, x1, x2, 1, false, false⟩ : PieceM)) :: zs)) := hide ((HD2.out.next hw3).put _ hc4 (fun k hk hlt => hg4.block k hlt (fun e => hk (Option.some.inj e))))
        have HB4 : Hid (Below B w w4) := hide (below_gr (HB.out.trans (hw3.mono (by omega))) hg4 (by omega) hcB)
        have c6' := hc4.cell 6 _ rfl
        clear hc4 hg4 CM hw3 c3' c0 c1 c2 c3 c4 c5 c6
        go_wp2_with fail
        exact ⟨⟨xs0, _, _, HXY2, rfl, by rw [HNA.out], by rw [HNB.out], HNC, HD4, HB4⟩, by rw [HP1.out, HP2.out]; omega⟩
      · have HNA : Hid (loseN (((c, (⟨x0, x1, x2, x3, x4, x5⟩ : PieceM)) :: ys).map Prod.snd) = s) := hide (by rw [HN1.out, if_neg hm]; omega)
        have HNC : Hid (((c, (⟨x0, x1, x2, x3, x4, x5⟩ : PieceM)) :: zs).map Prod.snd = loseL (((c, (⟨x0, x1, x2, x3, x4, x5⟩ : PieceM)) :: ys).map Prod.snd)) := hide (by rw [HN3.out, if_neg hm, ← HZ.out]; rfl)
        have hm' : ¬ (x3 = 1 ∧ x4 = false ∧ x5 = false ∧ 3 ≤ k) := fun h => hm (HMU.out.2 h)
        clear hm HMU HN1 HN3
        cases x4 with
        | true =>
          have HNB : Hid (((sackN (((c, (⟨x0, x1, x2, x3, true, x5⟩ : PieceM)) :: ys).map Prod.snd) : Nat) : Int) = (k : Int) + 1) := hide (by rw [HN2.out]; simp; omega)
          clear hm' HN2
          go_wp2_with fail
          exact ⟨⟨xs0, _, _, HXY2, rfl, by rw [HNA.out], by rw [HNB.out], HNC, HD2, HB⟩, by rw [HP1.out, HP2.out]; omega⟩
        | false =>
          have HNB : Hid (((sackN (((c, (⟨x0, x1, x2, x3, false, x5⟩ : PieceM)) :: ys).map Prod.snd) : Nat) : Int) = (k : Int)) := hide (by rw [HN2.out]; simp)
          clear HN2
          have HDN : Hid (∀ W, Below wr.heap.size wr W → DL W B L u x (xs0 ++ (c, (⟨x0, x1, x2, x3, false, x5⟩ : PieceM)) :: zs) ∧ Below B w W) := hide (fun W hW => ⟨HD2.out.next hW, HB.out.trans (hW.mono (by omega))⟩)
          cases x5 with
          | true =>
            clear hm'
            go_wp2_with (go_at_call 41; refine CW.out.mono ?_; rintro e w3 ⟨rfl, hw3⟩; have c6' := (HC.out.next hw3).cell 6 _ rfl)
            exact ⟨⟨xs0, _, _, HXY2, rfl, by rw [HNA.out], by rw [HNB.out], HNC, hide (HDN.out _ hw3).1, hide (HDN.out _ hw3).2⟩, by rw [HP1.out, HP2.out]; omega⟩
          | false =>
            by_cases h3 : x3 = 1
            · have hk : ¬ (3 : Int) ≤ (k : Int) := fun h => hm' ⟨h3, rfl, rfl, by omega⟩
              subst h3
              clear hm'
              go_wp2_with (go_at_call 41; refine CW.out.mono ?_; rintro e w3 ⟨rfl, hw3⟩; have c3' := (HC.out.next hw3).cell 3 (.int .i64 1) rfl; have c6' := (HC.out.next hw3).cell 6 _ rfl)
              exact ⟨⟨xs0, _, _, HXY2, rfl, by rw [HNA.out], by rw [HNB.out], HNC, hide (HDN.out _ hw3).1, hide (HDN.out _ hw3).2⟩, by rw [HP1.out, HP2.out]; omega⟩
            · have h3' : (x3 == 1) = false := beq_eq_false_iff_ne.2 h3
              clear hm'
              go_wp2_with (go_at_call 41; refine CW.out.mono ?_; rintro e w3 ⟨rfl, hw3⟩; have c3' := (HC.out.next hw3).cell 3 (.int .i64 x3) rfl; have c6' := (HC.out.next hw3).cell 6 _ rfl)
              exact ⟨⟨xs0, _, _, HXY2, rfl, by rw [HNA.out], by rw [HNB.out], HNC, hide (HDN.out _ hw3).1, hide (HDN.out _ hw3).2⟩, by rw [HP1.out, HP2.out]; omega⟩

set_option maxHeartbeats 4000000 in
theorem implLose_yes {u x : Int} {os : List PieceM} (hok : bOK u x os) : BoardLoseP 13 (fun _ => True) u x os u x (loseL os) (loseN os) 0 := by
  intro a n cap w hn ha hc hm _
  obtain ⟨hb2, hX, hR⟩ := two_boxes w #[.int .i64 u, .int .i64 x, .slice a n cap] #[.int .i64 0, .int .i64 0, .slice none 0 0] 29 29
  have HB2 := hide hb2; have HX := hide hX; have HR := hide hR
  have k0 := hX.cell 0 _ rfl; have k1 := hX.cell 1 _ rfl; have k2 := hX.cell 2 _ rfl
  have CV := hide (newPieceList_yes u x a n cap os ((w.alloc (.cells #[.int .i64 u, .int .i64 x, .slice a n cap] 29)).alloc (.cells #[.int .i64 0, .int .i64 0, .slice none 0 0] 29)) hn (ha.below hb2 (Nat.le_refl _)) hm hok)
  have HOK := hide hok
  have HN := hide hn
  have hV := hR.lt
  have HLL : Hid ((loseL os).length ≤ 1048576) := hide (by have := opLose_len os; rw [this, hn]; exact hm)
  obtain ⟨rr, hrr⟩ : ∃ rr, rr = loseN os := ⟨_, rfl⟩
  rw [← hrr]
  have HRR := hide hrr
  clear hn ha hok hb2 hX hR hrr
  go_enter Try.func13, Try.ntmps13
  go_wp2_with fail
  generalize (w.alloc (.cells #[.int .i64 u, .int .i64 x, .slice a n cap] 29)).alloc (.cells #[.int .i64 0, .int .i64 0, .slice none 0 0] 29) = V at *
  refine CV.out.mono ?_
  rintro e w1 ⟨L, ns, rfl, hD, hM, hw1⟩
  have CL := hide (overtaken_walk _ L u x ns w1 hD hw1.size (by rw [hM]; exact HOK.out))
  rw [hM, ← HRR.out] at CL
  have HR1 := hide (HR.out.next hw1)
  have HB1 : Hid (Below w.heap.size w w1) := hide (HB2.out.trans (hw1.mono HB2.out.size))
  have hV1 := hw1.size
  clear hD hM hw1 CV k0 k1 k2 HB2 HX HR
  go_wp2_with fail
  refine CL.out.mono ?_
  rintro e w2 ⟨ns2, rfl, hD2, hM2, hw2⟩
  have hlen : ns2.length ≤ 1048576 := by have := congrArg List.length hM2; rw [List.length_map] at this; rw [this]; exact HLL.out
  have CB := hide (board_walk _ L u x ns2 w2 hD2 hlen)
  rw [hM2] at CB
  have HR2 := hide (HR1.out.below hw2 hV)
  have HB3 : Hid (Below w.heap.size w w2) := hide (HB1.out.trans (hw2.mono (by omega)))
  have hV2 := hw2.size
  clear hD2 hM2 hw2 hlen CL HR1 HB1
  go_wp2_with fail
  refine CB.out.mono ?_
  rintro e w3 ⟨v, rfl, hO, hw3⟩
  obtain ⟨bz, nz, rfl, _⟩ := arrP_own hO
  have HR3 := hide (HR2.out.next hw3)
  have HO := hide (ownP_mono hO (C := w.heap.size + 2) (by omega))
  have HB4 : Hid (Below w.heap.size w w3) := hide (HB3.out.trans (hw3.mono HB3.out.size))
  have r0 := HR3.out.cell 0 _ rfl; have r1 := HR3.out.cell 1 _ rfl; have r2 := HR3.out.cell 2 _ rfl; have rf := HR3.out.frozen
  clear hO hw3 CB HB3 HR2
  go_wp2_with fail
  exact bodyPost_ret (v := .tuple #[.agg #[.int .i64 u, .int .i64 x, .slice bz (loseL os).length nz], .int .i64 rr, .int .i64 0]) (by simp [results, Try.results13, go_sem, r0, r1, r2]) rfl ⟨_, rfl, ownP_mono (ownP_gr HO.out (gr_set (gr_set (gr_set (grown_reflp _ _) 0 _) 1 _) 2 _) (Nat.lt_succ_self _)) (by omega), below_gr HB4.out (gr_set (gr_set (gr_set (grown_reflp _ _) 0 _) 1 _) 2 _) HB4.out.size (Nat.le_succ _)⟩
end Go.Proofs.Ytlkbmdkidpfioaa
