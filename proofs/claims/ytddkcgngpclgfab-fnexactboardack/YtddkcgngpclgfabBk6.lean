/-
Contracts of functions of this seat.
-/
import Derived.Test.YtddkcgngpclgfabRows
import Derived.WalkKit
import Derived.ProofKit
import Derived.OpenShut
import Derived.Test.YtddkcgngpclgfabBk5
namespace Go.Proofs.Ytddkcgngpclgfab
open Go.ChangeShapes Go.WideShapes Go.ChangeAt Go.RowKit
set_option linter.unusedVariables false
set_option maxRecDepth 100000
/-- A piece that one of the stretches tells to be there. -/
def sacB (u x : Int) (zs : List Int) (p : PieceM) : Bool := !p.f4 && wiB u x p.f0 p.f1 zs
def sacF (u x : Int) (zs : List Int) (p : PieceM) : PieceM := if sacB u x zs p = true then ⟨p.f0, p.f1, p.f2, p.f3, true, false⟩ else p
def sacG (u x : Int) (zs : List Int) : List PieceM → Int
  | [] => 0
  | p :: r => (if sacB u x zs p = true then p.f1 - p.f0 else 0) + sacG u x zs r
theorem sacG_app (u x : Int) (zs : List Int) : ∀ (a b : List PieceM), sacG u x zs (a ++ b) = sacG u x zs a + sacG u x zs b
  | [], b => by simp [sacG]
  | o :: a, b => by show _ + sacG u x zs (a ++ b) = _ + sacG u x zs a + sacG u x zs b; rw [sacG_app u x zs a b]; omega
theorem sacG_le (v x : Int) (zs : List Int) : ∀ (os : List PieceM) (u m : Int), chk u os = some m → 0 ≤ sacG v x zs os ∧ sacG v x zs os ≤ m - u
  | [], u, m, h => by cases h; simp [sacG]
  | o :: a, u, m, h => by
    by_cases hh : o.f0 = u ∧ vp o
    · rw [chk_cons hh.1 hh.2] at h
      have h1 := sacG_le v x zs a _ _ h
      have h2 := hh.2.1
      have h3 := hh.1
      show 0 ≤ (if sacB v x zs o = true then o.f1 - o.f0 else 0) + sacG v x zs a ∧ (if sacB v x zs o = true then o.f1 - o.f0 else 0) + sacG v x zs a ≤ m - u
      by_cases hc : sacB v x zs o = true
      · rw [if_pos hc]; omega
      · rw [if_neg hc]; omega
    · rw [chk_ill hh] at h; cases h
theorem sacG_part {u x v y : Int} {zs : List Int} {a b : List PieceM} (h : bOK u x (a ++ b)) : 0 ≤ sacG v y zs a ∧ sacG v y zs a ≤ 1099511627776 := by
  obtain ⟨m, h1, h2⟩ := chk_app _ _ _ _ h.2.2.2
  have h3 := sacG_le v y zs _ _ _ h1
  have h4 := chk_le _ _ _ h2
  have := h.1; have := h.2.1
  omega
/-- What a pointer's cell holds. -/
def ptAt (w : World) (t : Value) : Value := match t with | .pointer (some a) => (match w.cell? a with | some v => v | none => .pointer none) | _ => .pointer none
theorem ptAt_eq {w : World} {b : Nat} {v : Value} (h : w.cell? ⟨b, 0, none⟩ = some v) : ptAt w (.pointer (some ⟨b, 0, none⟩)) = v := by
  show (match w.cell? ⟨b, 0, none⟩ with | some v => v | none => .pointer none) = v
  rw [h]
set_option maxHeartbeats 24000000 in
theorem sack_walk (B L : Nat) (u x : Int) (ns : List (Nat × PieceM)) (aq : Option Addr) (nq cq : Nat) (zs : List Int) (w0 w : World) (h : DL w B L u x ns) (hB : B ≤ w.heap.size) (hok : bOK u x (ns.map Prod.snd)) (hn : zs.length = nq * 2) (ha : ArrI w0 aq zs) (hw0 : w0.heap.size ≤ B) (hb0 : Below w0.heap.size w0 w) (hm : nq ≤ 1048576) :
    Calls Try.prog 38 #[.pointer (some ⟨L, 0, none⟩), .slice aq nq cq] w fun e w' => e = .returned (.int .i64 (sacG u x zs (ns.map Prod.snd))) ∧ DL w' B L u x (chgN (sacF u x zs) ns) ∧ Below B w w' ∧ Fr (L :: bks ns) w w' := by
  have HD0 := hide h; have HOK := hide hok
  have HLN := hide h.nd
  have HLT := hide h.lt
  have HN := hide hn
  have HA0 : Hid (∀ W, Below B w W → ArrI W aq zs) := hide (fun W hW => ha.below (hb0.trans (hW.mono hw0)) (Nat.le_refl _))
  obtain ⟨hb2, hX, hP⟩ := two_boxes w #[.pointer (some ⟨L, 0, none⟩)] #[ptO (fstO ns none)] 56 60
  have HX := hide hX; have HP := hide hP; have HB2 : Hid (Below B w _) := hide (hb2.mono hB)
  have HD1 := hide (h.next hb2)
  have HFr0 : Hid (Fr (L :: bks ns) w _) := hide (Fr.below hb2)
  have ha1 := (Below.refl w.heap.size w).alloc (Nat.le_refl _) (.cells #[.pointer (some ⟨L, 0, none⟩)] 56)
  have l3 := (h.next ha1).head.cell 3 _ rfl
  have b0 := (hv_new w #[.pointer (some ⟨L, 0, none⟩)] 56).cell 0 _ rfl
  clear h hok hn ha hb0 hb2 hX hP ha1
  go_enter Try.func38, Try.ntmps38
  go_wp2_with fail
  clear l3 b0
  generalize (w.alloc (.cells #[.pointer (some ⟨L, 0, none⟩)] 56)).alloc (.cells #[ptO (fstO ns none)] 60) = V0 at *
  go_loopw [5, 6] (fun s t w2 => ∃ (xs ys : List (Nat × PieceM)) (PB : Nat), Hid (ns = xs ++ ys) ∧ s = .int .i64 (sacG u x zs (xs.map Prod.snd)) ∧ t = .pointer (some ⟨PB, 0, none⟩) ∧ w.heap.size < PB ∧ Hid (HoldV w2 PB #[ptO (fstO ys none)] 60) ∧ Hid (HoldV w2 w.heap.size #[.pointer (some ⟨L, 0, none⟩)] 56) ∧ Hid (DL w2 B L u x (chgN (sacF u x zs) xs ++ ys)) ∧ Hid (Below B w w2) ∧ Hid (Fr (L :: bks ns) w w2)) (fun _ t w2 => posOf (bks ns) (ptAt w2 t))
  case atStart => exact ⟨[], ns, w.heap.size + 1, hide rfl, rfl, rfl, Nat.lt_succ_self _, HP, HX, HD1, HB2, HFr0⟩
  case round =>
    rename World => wk
    obtain ⟨xs, ys, PB, HXY, rfl, rfl, hPB, HP, HX, HD, HB, HFr⟩ := hrel
    cases ys with
    | nil =>
      have HF : Hid (DL wk B L u x (chgN (sacF u x zs) ns)) := hide (by rw [HXY.out, List.append_nil]; have := HD.out; rwa [List.append_nil] at this)
      have HS : Hid (sacG u x zs (ns.map Prod.snd) = sacG u x zs (xs.map Prod.snd)) := hide (by rw [HXY.out, List.append_nil])
      generalize sacG u x zs (xs.map Prod.snd) = s at *
      have p0 := HP.out.cell 0 (.pointer none) rfl
      go_wp2_with fail
      go_ret
      exact ⟨ret_int HS.out.symm, HF.out, HB.out, HFr.out⟩
    | cons p ys =>
      obtain ⟨c, q⟩ := p
      have p0 := HP.out.cell 0 (.pointer (some ⟨c, 0, none⟩)) rfl
      have x0' := HX.out.cell 0 (.pointer (some ⟨L, 0, none⟩)) rfl
      have HP1 : Hid (posOf (bks ns) (ptAt wk (.pointer (some ⟨PB, 0, none⟩))) = ys.length + 1) := hide (by rw [ptAt_eq p0, HXY.out]; exact pos_at (ys := (c, q) :: ys) (by rw [← HXY.out]; exact HLN.out))
      have HXY2 : Hid (ns = (xs ++ [(c, q)]) ++ ys) := hide (by rw [HXY.out]; simp)
      have HP2 : Hid (posOf (bks ns) (ptO (fstO ys none)) = ys.length) := hide (by rw [HXY2.out]; exact pos_at (by rw [← HXY2.out]; exact HLN.out))
      obtain ⟨q0, q1, q2⟩ : 0 ≤ q.f0 ∧ q.f0 < q.f1 ∧ q.f1 ≤ 1099511627776 := bOK_piece HOK.out (by rw [HXY.out]; simp)
      obtain ⟨s0, s1⟩ : 0 ≤ sacG u x zs (xs.map Prod.snd) ∧ sacG u x zs (xs.map Prod.snd) ≤ 1099511627776 := sacG_part (b := (((c, q) :: ys).map Prod.snd)) (by have h := HOK.out; rw [HXY.out, List.map_append] at h; exact h)
      have HS : Hid (sacG u x zs ((xs ++ [(c, q)]).map Prod.snd) = sacG u x zs (xs.map Prod.snd) + (if sacB u x zs q = true then q.f1 - q.f0 else 0)) := hide (by rw [List.map_append, sacG_app]; simp [sacG])
      generalize sacG u x zs (xs.map Prod.snd) = s at *
      have hcl : c < w.heap.size := HLT.out c (by rw [HXY.out]; simp [bks])
      have hPl : PB < wk.heap.size := HP.out.lt
      have hXl : w.heap.size < wk.heap.size := HX.out.lt
      have hcB : B ≤ c := HD.out.lo c (by simp [bks])
      have hC := hide HD.out.at
      have c4 := hC.out.cell 4 (.bool q.f4) rfl; have c7 := hC.out.cell 7 (ptO (fstO ys none)) rfl
      cases hq4 : q.f4 with
      | true =>
        have hsb : sacB u x zs q = false := by unfold sacB; rw [hq4]; rfl
        have HSN : Hid (sacG u x zs ((xs ++ [(c, q)]).map Prod.snd) = s) := hide (by rw [HS.out, hsb]; simp)
        have HDn : chgN (sacF u x zs) (xs ++ [(c, q)]) ++ ys = chgN (sacF u x zs) xs ++ (c, q) :: ys := by
          have e : sacF u x zs q = q := by unfold sacF; rw [if_neg (by rw [hsb]; simp)]
          simp [chgN, e]
        have HPz := HP; have HXz := HX; have HBz := HB; have HCz := hC; have HFz := HFr
        have HDz : Hid (DL wk B L u x (chgN (sacF u x zs) (xs ++ [(c, q)]) ++ ys)) := hide (by rw [HDn]; exact HD.out)
        rw [hq4] at c4
        clear HP HX HB HD hC
        go_upto_region 7 with fail
        clear c4 c7 x0'
        have p0 := HPz.out.cell 0 (.pointer (some ⟨c, 0, none⟩)) rfl
        have hal := (Below.refl wk.heap.size wk).alloc (Nat.le_refl _) (.cells #[.pointer (some ⟨c, 0, none⟩)] 60)
        have HNB : Hid (HoldV (wk.alloc (.cells #[.pointer (some ⟨c, 0, none⟩)] 60)) wk.heap.size #[.pointer (some ⟨c, 0, none⟩)] 60) := hide (hv_new wk #[.pointer (some ⟨c, 0, none⟩)] 60)
        have n0 := HNB.out.cell 0 _ rfl; have nf := HNB.out.frozen
        have hXz : w.heap.size < wk.heap.size := HXz.out.lt
        have HD4 := hide (HDz.out.next hal); have HX4 := hide (HXz.out.next hal); have HB4 : Hid (Below B w _) := hide (HBz.out.trans (hal.mono (by have := HBz.out.size; omega)))
        have c7 : (wk.alloc (.cells #[.pointer (some ⟨c, 0, none⟩)] 60)).cell? ⟨c, 7, none⟩ = some (ptO (fstO ys none)) := (HCz.out.next hal).cell 7 _ rfl
        have hal2 := (Below.refl wk.heap.size wk).alloc (Nat.le_refl _) (.cells #[ptO (fstO ys none)] 60)
        have HX5 := hide (HXz.out.next hal2)
        have HD5 := hide (HDz.out.next hal2)
        have HP5 : Hid (HoldV (wk.alloc (.cells #[ptO (fstO ys none)] 60)) wk.heap.size #[ptO (fstO ys none)] 60) := hide (hv_new wk #[ptO (fstO ys none)] 60)
        have HB5 : Hid (Below B w _) := hide (HBz.out.trans (hal2.mono (by have := HBz.out.size; omega)))
        have HF5 : Hid (Fr (L :: bks ns) w _) := hide (HFz.out.trans (Fr.below hal2))
        have k5 := ptAt_eq (HP5.out.cell 0 (ptO (fstO ys none)) rfl)
        have k6 : posOf (bks ns) (ptAt (wk.alloc (.cells #[ptO (fstO ys none)] 60)) (.pointer (some ⟨wk.heap.size, 0, none⟩))) = ys.length := by rw [k5, HP2.out]
        clear hal hal2 k5 HD4 HX4 HB4 HDz HXz HBz HPz HCz
        go_wp2_with fail
        exact ⟨⟨xs ++ [(c, q)], ys, wk.heap.size, HXY2, by rw [HSN.out], rfl, by omega, HP5, HX5, HD5, HB5, HF5⟩, by rw [HP1.out]; exact Nat.lt_of_le_of_lt (Nat.le_of_eq k6) (Nat.lt_succ_self _)⟩
      | false =>
        have CW := hide (containsSt_walk w.heap.size PB L c u x _ q _ _ aq nq cq zs wk x0' hXl p0 hPl HD.out.head hC.out HN.out (HA0.out wk HB.out) hm)
        rw [hq4] at c4
        go_wp2_with fail
        refine CW.out.mono ?_
        rintro e wj ⟨rfl, hb3⟩
        have HPj := hide (HP.out.next hb3); have HXj := hide (HX.out.next hb3); have HDj := hide (HD.out.next hb3); have HCj := hide (hC.out.next hb3); have HBj : Hid (Below B w wj) := hide (HB.out.trans (hb3.mono (by have := HB.out.size; omega)))
        have hjs := hb3.size
        have HFj : Hid (Fr (L :: bks ns) w wj) := hide (HFr.out.trans (Fr.below hb3))
        clear HP HX HD hC HB CW c4 c7 p0 x0' hb3
        cases hwi : wiB u x q.f0 q.f1 zs with
        | false =>
          have hsb : sacB u x zs q = false := by unfold sacB; rw [hwi, Bool.and_false]
          have HSN : Hid (sacG u x zs ((xs ++ [(c, q)]).map Prod.snd) = s) := hide (by rw [HS.out, hsb]; simp)
          have HDn : chgN (sacF u x zs) (xs ++ [(c, q)]) ++ ys = chgN (sacF u x zs) xs ++ (c, q) :: ys := by
            have e : sacF u x zs q = q := by unfold sacF; rw [if_neg (by rw [hsb]; simp)]
            simp [chgN, e]
          have HPz := HPj; have HXz := HXj; have HBz := HBj; have HCz := HCj; have HFz := HFj
          have HDz : Hid (DL wj B L u x (chgN (sacF u x zs) (xs ++ [(c, q)]) ++ ys)) := hide (by rw [HDn]; exact HDj.out)
          clear HPj HXj HBj HCj HDj
          go_upto_region 7 with fail
          have p0 := HPz.out.cell 0 (.pointer (some ⟨c, 0, none⟩)) rfl
          have hal := (Below.refl wj.heap.size wj).alloc (Nat.le_refl _) (.cells #[.pointer (some ⟨c, 0, none⟩)] 60)
          have HNB : Hid (HoldV (wj.alloc (.cells #[.pointer (some ⟨c, 0, none⟩)] 60)) wj.heap.size #[.pointer (some ⟨c, 0, none⟩)] 60) := hide (hv_new wj #[.pointer (some ⟨c, 0, none⟩)] 60)
          have n0 := HNB.out.cell 0 _ rfl; have nf := HNB.out.frozen
          have hXz : w.heap.size < wj.heap.size := HXz.out.lt
          have HD4 := hide (HDz.out.next hal); have HX4 := hide (HXz.out.next hal); have HB4 : Hid (Below B w _) := hide (HBz.out.trans (hal.mono (by have := HBz.out.size; omega)))
          have c7 : (wj.alloc (.cells #[.pointer (some ⟨c, 0, none⟩)] 60)).cell? ⟨c, 7, none⟩ = some (ptO (fstO ys none)) := (HCz.out.next hal).cell 7 _ rfl
          have hal2 := (Below.refl wj.heap.size wj).alloc (Nat.le_refl _) (.cells #[ptO (fstO ys none)] 60)
          have HX5 := hide (HXz.out.next hal2)
          have HD5 := hide (HDz.out.next hal2)
          have HP5 : Hid (HoldV (wj.alloc (.cells #[ptO (fstO ys none)] 60)) wj.heap.size #[ptO (fstO ys none)] 60) := hide (hv_new wj #[ptO (fstO ys none)] 60)
          have HB5 : Hid (Below B w _) := hide (HBz.out.trans (hal2.mono (by have := HBz.out.size; omega)))
          have HF5 : Hid (Fr (L :: bks ns) w _) := hide (HFz.out.trans (Fr.below hal2))
          have k5 := ptAt_eq (HP5.out.cell 0 (ptO (fstO ys none)) rfl)
          have k6 : posOf (bks ns) (ptAt (wj.alloc (.cells #[ptO (fstO ys none)] 60)) (.pointer (some ⟨wj.heap.size, 0, none⟩))) = ys.length := by rw [k5, HP2.out]
          clear hal hal2 k5 HD4 HX4 HB4 HDz HXz HBz HPz HCz
          go_wp2_with fail
          exact ⟨⟨xs ++ [(c, q)], ys, wj.heap.size, HXY2, by rw [HSN.out], rfl, by omega, HP5, HX5, HD5, HB5, HF5⟩, by rw [HP1.out]; exact Nat.lt_of_le_of_lt (Nat.le_of_eq k6) (Nat.lt_succ_self _)⟩
        | true =>
          have hsb : sacB u x zs q = true := by unfold sacB; rw [hwi, hq4]; rfl
          have HSN : Hid (sacG u x zs ((xs ++ [(c, q)]).map Prod.snd) = s + (q.f1 - q.f0)) := hide (by rw [HS.out, hsb]; simp)
          have HDn : chgN (sacF u x zs) (xs ++ [(c, q)]) ++ ys = chgN (sacF u x zs) xs ++ (c, ⟨q.f0, q.f1, q.f2, q.f3, true, false⟩) :: ys := by
            have e : sacF u x zs q = ⟨q.f0, q.f1, q.f2, q.f3, true, false⟩ := by unfold sacF; rw [if_pos hsb]
            simp [chgN, e]
          have CM := hide (markSacked_walk c q _ _ wj HCj.out q0 q1 q2)
          have p0 := HPj.out.cell 0 (.pointer (some ⟨c, 0, none⟩)) rfl
          have w1' : IntKind.i64.wrap (s + (q.f1 - q.f0)) = s + (q.f1 - q.f0) := by rw [IntKind.wrap_i64]; omega
          go_wp2_with fail
          refine CM.out.mono ?_
          rintro e wz ⟨rfl, hc3, hg3⟩
          have HCz := hide hc3
          have HDz : Hid (DL wz B L u x (chgN (sacF u x zs) (xs ++ [(c, q)]) ++ ys)) := hide (by
            rw [HDn]
            exact HDj.out.put (o' := ⟨q.f0, q.f1, q.f2, q.f3, true, false⟩) hc3 (fun k hk hlt => hg3.block k hlt (fun e => hk (Option.some.inj e))))
          have HPz := hide (hv_gr HPj.out hg3 (by omega)); have HXz := hide (hv_gr HXj.out hg3 (by omega))
          have HFz : Hid (Fr (L :: bks ns) w wz) := hide (HFj.out.trans (Fr.grown hg3 (by rw [HXY.out]; simp [bks])))
          have HBz : Hid (Below B w wz) := hide (below_gr HBj.out hg3 (by have := HBj.out.size; omega) hcB)
          clear HPj HXj HBj HCj HDj CM p0 hc3 hg3
          go_upto_region 7 with fail
          have p0 := HPz.out.cell 0 (.pointer (some ⟨c, 0, none⟩)) rfl
          have hal := (Below.refl wz.heap.size wz).alloc (Nat.le_refl _) (.cells #[.pointer (some ⟨c, 0, none⟩)] 60)
          have HNB : Hid (HoldV (wz.alloc (.cells #[.pointer (some ⟨c, 0, none⟩)] 60)) wz.heap.size #[.pointer (some ⟨c, 0, none⟩)] 60) := hide (hv_new wz #[.pointer (some ⟨c, 0, none⟩)] 60)
          have n0 := HNB.out.cell 0 _ rfl; have nf := HNB.out.frozen
          have hXz : w.heap.size < wz.heap.size := HXz.out.lt
          have HD4 := hide (HDz.out.next hal); have HX4 := hide (HXz.out.next hal); have HB4 : Hid (Below B w _) := hide (HBz.out.trans (hal.mono (by have := HBz.out.size; omega)))
          have c7 : (wz.alloc (.cells #[.pointer (some ⟨c, 0, none⟩)] 60)).cell? ⟨c, 7, none⟩ = some (ptO (fstO ys none)) := (HCz.out.next hal).cell 7 _ rfl
          have hal2 := (Below.refl wz.heap.size wz).alloc (Nat.le_refl _) (.cells #[ptO (fstO ys none)] 60)
          have HX5 := hide (HXz.out.next hal2)
          have HD5 := hide (HDz.out.next hal2)
          have HP5 : Hid (HoldV (wz.alloc (.cells #[ptO (fstO ys none)] 60)) wz.heap.size #[ptO (fstO ys none)] 60) := hide (hv_new wz #[ptO (fstO ys none)] 60)
          have HB5 : Hid (Below B w _) := hide (HBz.out.trans (hal2.mono (by have := HBz.out.size; omega)))
          have HF5 : Hid (Fr (L :: bks ns) w _) := hide (HFz.out.trans (Fr.below hal2))
          have k5 := ptAt_eq (HP5.out.cell 0 (ptO (fstO ys none)) rfl)
          have k6 : posOf (bks ns) (ptAt (wz.alloc (.cells #[ptO (fstO ys none)] 60)) (.pointer (some ⟨wz.heap.size, 0, none⟩))) = ys.length := by rw [k5, HP2.out]
          clear hal hal2 k5 HD4 HX4 HB4 HDz HXz HBz HPz HCz
          go_wp2_with fail
          exact ⟨⟨xs ++ [(c, q)], ys, wz.heap.size, HXY2, by rw [HSN.out], rfl, by omega, HP5, HX5, HD5, HB5, HF5⟩, by rw [HP1.out]; exact Nat.lt_of_le_of_lt (Nat.le_of_eq k6) (Nat.lt_succ_self _)⟩
end Go.Proofs.Ytddkcgngpclgfab
