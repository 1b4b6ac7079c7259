/-
Contracts of functions of this seat.
-/
import Derived.Test.YtddkcgngpclgfabRows
import Derived.WalkKit
import Derived.ProofKit
import Derived.OpenShut
import Derived.Test.YtddkcgngpclgfabBk2
namespace Go.Proofs.Ytddkcgngpclgfab
open Go.ChangeShapes Go.WideShapes Go.ChangeAt Go.RowKit
set_option linter.unusedVariables false
set_option maxRecDepth 100000
/-- The board's pieces behind an acknowledgement, and ahead of what is told to be there. -/
def cutP (ack : Int) (p : PieceM) : PieceM := ⟨max p.f0 ack, p.f1, p.f2, p.f3, p.f4, p.f5⟩
def ackH (ack : Int) (os : List PieceM) : List PieceM := (os.filter (fun p => decide (ack < p.f1))).map (cutP ack)
def frsL (ack : Int) (os : List PieceM) : List PieceM := match os with | [] => [] | o :: r => ⟨ack, o.f1, o.f2, o.f3, o.f4, o.f5⟩ :: r
theorem ackH_app (ack : Int) (a b : List PieceM) : ackH ack (a ++ b) = ackH ack a ++ ackH ack b := by unfold ackH; rw [List.filter_append, List.map_append]
theorem ackH_gone {ack : Int} : ∀ (a : List PieceM), (∀ p ∈ a, p.f1 ≤ ack) → ackH ack a = []
  | [], _ => rfl
  | o :: a, h => by
    have h1 : ¬ ack < o.f1 := Int.not_lt.2 (h o (by simp))
    have h2 := ackH_gone a (fun p hp => h p (by simp [hp]))
    unfold ackH at h2 ⊢
    rw [List.filter_cons_of_neg (by simp [h1]), h2]
theorem ackH_id {ack : Int} : ∀ (r : List PieceM), (∀ p ∈ r, ack < p.f0 ∧ ack < p.f1) → ackH ack r = r
  | [], _ => rfl
  | o :: r, h => by
    have h1 := h o (by simp)
    have h2 := ackH_id r (fun p hp => h p (by simp [hp]))
    unfold ackH at h2 ⊢
    rw [List.filter_cons_of_pos (by simp [h1.2]), List.map_cons, h2]
    have e : cutP ack o = o := by
      unfold cutP
      rw [show max o.f0 ack = o.f0 by omega]
    rw [e]
theorem ackH_cons {ack : Int} {o : PieceM} (h : ack < o.f1) (r : List PieceM) : ackH ack (o :: r) = cutP ack o :: ackH ack r := by
  unfold ackH
  rw [List.filter_cons_of_pos (by simp [h]), List.map_cons]
theorem chk_behind {ack : Int} {r : List PieceM} {v m : Int} (h : chk v r = some m) (hv : ack < v) : ∀ p ∈ r, ack < p.f0 ∧ ack < p.f1 := by
  intro p hp
  obtain ⟨h1, _, h3⟩ := chk_mem r v m h p hp
  have := h3.1
  omega
theorem chk_end {ack : Int} : ∀ (a : List PieceM) (u m : Int), chk u a = some m → u ≤ ack → (∀ p ∈ a, p.f1 ≤ ack) → m ≤ ack
  | [], u, m, h, hu, _ => by cases h; exact hu
  | o :: a, u, m, h, hu, ha => by
    by_cases hh : o.f0 = u ∧ vp o
    · rw [chk_cons hh.1 hh.2] at h
      exact chk_end a _ _ h (ha o (by simp)) (fun p hp => ha p (by simp [hp]))
    · rw [chk_ill hh] at h; cases h
theorem ackS_skip (ack : Int) : ∀ (b a : List PieceM), (∀ p ∈ b, ack < p.f1) → ackS ack (a ++ b) = ackS ack a
  | [], a, _ => by rw [List.append_nil]
  | o :: b, a, h => by
    have h1 : ¬ o.f1 ≤ ack := Int.not_le.2 (h o (by simp))
    have h2 := ackS_skip ack b (a ++ [o]) (fun p hp => h p (by simp [hp]))
    rw [List.append_assoc] at h2
    rw [show a ++ o :: b = a ++ ([o] ++ b) from rfl, h2, ackS_snoc, if_neg (fun hh => h1 hh.1)]
theorem ack_split {u x ack : Int} {a b : List PieceM} (hok : bOK u x (a ++ b)) (hu : u ≤ ack) (ha : ∀ p ∈ a, p.f1 ≤ ack) (hb : ∀ o r, b = o :: r → ack < o.f1) : ackH ack (a ++ b) = frsL ack b ∧ ackS ack (a ++ b) = ackS ack a := by
  obtain ⟨m, h1, h2⟩ := chk_app _ _ _ _ hok.2.2.2
  have hm := chk_end a u m h1 hu ha
  cases b with
  | nil => exact ⟨by rw [List.append_nil, ackH_gone a ha]; rfl, by rw [List.append_nil]⟩
  | cons o r =>
    by_cases hh : o.f0 = m ∧ vp o
    · rw [chk_cons hh.1 hh.2] at h2
      have ho := hb o r rfl
      have hr := chk_behind h2 ho
      refine ⟨?_, ackS_skip ack _ _ (fun p hp => ?_)⟩
      · rw [ackH_app, ackH_gone a ha, List.nil_append, ackH_cons ho, ackH_id r hr]
        show cutP ack o :: r = (⟨ack, o.f1, o.f2, o.f3, o.f4, o.f5⟩ : PieceM) :: r
        unfold cutP
        rw [show max o.f0 ack = ack by have := hh.1; omega]
      · rcases List.mem_cons.1 hp with rfl | hp
        · exact ho
        · exact (hr p hp).2
    · rw [chk_ill hh] at h2; cases h2
theorem ackH_chk {ack x : Int} (hx : ack ≤ x) : ∀ (os : List PieceM) (u : Int), chk u os = some x → u ≤ ack → chk ack (ackH ack os) = some x
  | [], u, h, hu => by
    cases h
    have e : ack = x := by omega
    rw [e]
    rfl
  | o :: r, u, h, hu => by
    by_cases hh : o.f0 = u ∧ vp o
    · rw [chk_cons hh.1 hh.2] at h
      by_cases h1 : ack < o.f1
      · rw [ackH_cons h1, ackH_id r (chk_behind h h1)]
        have e : (cutP ack o).f0 = ack := by show max o.f0 ack = ack; have := hh.1; omega
        rw [chk_cons e ⟨by rw [e]; exact h1, hh.2.2⟩]
        exact h
      · rw [show o :: r = [o] ++ r from rfl, ackH_app, ackH_gone [o] (by intro p hp; simp at hp; subst hp; exact Int.not_lt.1 h1), List.nil_append]
        exact ackH_chk hx r _ h (Int.not_lt.1 h1)
    · rw [chk_ill hh] at h; cases h
theorem ackH_ok {u x ack : Int} {os : List PieceM} (hok : bOK u x os) (h1 : u ≤ ack) (h2 : ack ≤ x) : bOK ack x (ackH ack os) :=
  ⟨Int.le_trans hok.1 h1, hok.2.1, by
    have h : (ackH ack os).length ≤ os.length := by unfold ackH; rw [List.length_map]; exact List.length_filter_le _ _
    exact Nat.le_trans h hok.2.2.1, ackH_chk h2 os u hok.2.2.2 h1⟩
/-- How many pieces lie in a list in memory. -/
def nAt (w : World) (L : Nat) : Nat := match w.cell? ⟨L, 2, none⟩ with | some (.int _ z) => z.toNat | _ => 0
theorem nAt_DL {w : World} {B L : Nat} {u x : Int} {ns : List (Nat × PieceM)} (h : DL w B L u x ns) : nAt w L = ns.length := by
  unfold nAt
  rw [h.head.cell 2 _ rfl]
  simp
theorem DL.setu {w : World} {B L : Nat} {u x : Int} {ns : List (Nat × PieceM)} (h : DL w B L u x ns) (u' : Int) : DL (w.setCell ⟨L, 0, none⟩ (.int .i64 u')) B L u' x ns :=
  by
  refine ⟨hv_set h.head 0 _, h.seg.frame (fun b hb => heap_setCell_other _ _ b _ (fun e => ?_)), h.nd, h.lo⟩
  have h1 := (List.nodup_cons.1 h.nd).1
  exact h1 (by rw [show L = b from e.symm]; exact hb)
def SubB (a b : List (Nat × PieceM)) : Prop := ∀ k ∈ bks a, k ∈ bks b
set_option maxHeartbeats 16000000 in
theorem acknowledge_walk (B L : Nat) (u x ack : Int) (ns : List (Nat × PieceM)) (w : World) (h : DL w B L u x ns) (hB : B ≤ w.heap.size) (hok : bOK u x (ns.map Prod.snd)) (hu : u ≤ ack) :
    Calls Try.prog 37 #[.pointer (some ⟨L, 0, none⟩), .int .i64 ack] w fun e w' => ∃ ns2 : List (Nat × PieceM), e = .returned (.int .i64 (ackS ack (ns.map Prod.snd))) ∧ DL w' B L ack x ns2 ∧ ns2.map Prod.snd = ackH ack (ns.map Prod.snd) ∧ Below B w w' ∧ Fr (L :: bks ns) w w' ∧ SubB ns2 ns := by
  have HD0 := hide h; have HOK := hide hok; have HU := hide hu
  have HLB := hide (h.lo L (by simp))
  have hnl : ns.length ≤ 4096 := by have := hok.2.2.1; rwa [List.length_map] at this
  clear h hok hu
  go_enter Try.func37, Try.ntmps37
  go_wp2_with fail
  go_loopw [5] (fun s w2 => ∃ xs ys : List (Nat × PieceM), Hid (ns = xs ++ ys) ∧ s = .int .i64 (ackS ack (xs.map Prod.snd)) ∧ Hid (∀ p ∈ xs.map Prod.snd, p.f1 ≤ ack) ∧ Hid (DL w2 B L u x ys) ∧ Hid (Below B w w2) ∧ Hid (Fr (L :: bks ns) w w2)) (fun _ w2 => nAt w2 L)
  case atStart => exact ⟨[], ns, hide rfl, rfl, hide (by simp), HD0, hide (Below.refl _ _), hide (Fr.refl _ _)⟩
  case round =>
    rename World => wk
    obtain ⟨xs, ys, HXY, rfl, HA, HD, HB, HFr⟩ := hrel
    cases ys with
    | nil =>
      have HF : Hid (ackH ack (ns.map Prod.snd) = [] ∧ ackS ack (ns.map Prod.snd) = ackS ack (xs.map Prod.snd)) := hide (by
        have h := ack_split (a := xs.map Prod.snd) (b := []) (by have h := HOK.out; rw [HXY.out, List.append_nil] at h; rw [List.append_nil]; exact h) HU.out HA.out (fun o r e => by cases e)
        rw [HXY.out, List.append_nil]
        rw [List.append_nil] at h
        exact h)
      have l0 := HD.out.head.cell 0 _ rfl; have lf := HD.out.head.frozen
      have l3 := HD.out.head.cell 3 (.pointer none) rfl
      generalize ackS ack (xs.map Prod.snd) = s at *
      go_wp2_with fail
      go_ret
      exact ⟨[], ret_int HF.out.2.symm, HD.out.setu ack, HF.out.1.symm, HB.out.setCell (p := ⟨L, 0, none⟩) HLB.out _, HFr.out.set (by simp) 0 _, fun b hb => by simp at hb⟩
    | cons p ys =>
      obtain ⟨c, q⟩ := p
      have hC := HD.out.seg.1
      have c1 := hC.cell 1 _ rfl; have c0 := hC.cell 0 _ rfl; have c2 := hC.cell 2 _ rfl; have c3 := hC.cell 3 _ rfl; have c4 := hC.cell 4 _ rfl; have c5 := hC.cell 5 _ rfl; have cf := hC.frozen
      have HCB := hide (HD.out.lo c (by simp [bks]))
      have l0 := HD.out.head.cell 0 _ rfl; have lf := HD.out.head.frozen
      have l3 := HD.out.head.cell 3 (.pointer (some ⟨c, 0, none⟩)) rfl
      obtain ⟨x0, x1, x2, x3, x4, x5⟩ := q
      try dsimp only at c0 c1 c2 c3 c4 c5
      clear hC
      by_cases hd : x1 ≤ ack
      · have hxs : Hid (ns = (xs ++ [(c, PieceM.mk x0 x1 x2 x3 x4 x5)]) ++ ys) := hide (by rw [HXY.out]; simp)
        have HA2 : Hid (∀ p ∈ (xs ++ [(c, PieceM.mk x0 x1 x2 x3 x4 x5)]).map Prod.snd, p.f1 ≤ ack) := hide (by
          intro p hp
          rw [List.map_append] at hp
          rcases List.mem_append.1 hp with hp | hp
          · exact HA.out p hp
          · simp at hp; subst hp; exact hd)
        have HS : Hid (ackS ack ((xs ++ [(c, PieceM.mk x0 x1 x2 x3 x4 x5)]).map Prod.snd) = if x3 = 1 ∧ x4 = false then x2 else ackS ack (xs.map Prod.snd)) := hide (by
          rw [List.map_append]
          show ackS ack (xs.map Prod.snd ++ [PieceM.mk x0 x1 x2 x3 x4 x5]) = _
          rw [ackS_snoc]
          simp [hd])
        generalize ackS ack (xs.map Prod.snd) = s at *
        have hyl : ys.length ≤ 1048576 := by
          have h := congrArg List.length HXY.out
          simp at h
          omega
        have HL1 := hide (nAt_DL HD.out)
        have CM := hide (measures_walk x0 x1 x2 x3 x4 x5 wk)
        go_wp2_with fail
        refine CM.out.mono ?_
        rintro e w3 ⟨rfl, hb3⟩
        have HD3 := hide (HD.out.next hb3)
        have HFr3 : Hid (Fr (L :: bks ns) w w3) := hide (HFr.out.trans (Fr.below hb3))
        have HSub : Hid (∀ b ∈ L :: bks ((c, PieceM.mk x0 x1 x2 x3 x4 x5) :: ys), b ∈ L :: bks ns) := hide (by rw [HXY.out]; intro b hb; simp [bks] at hb ⊢; rcases hb with h | h | h <;> simp [h])
        have HB3 : Hid (Below B w w3) := hide (HB.out.trans (hb3.mono (by have := HB.out.size; omega)))
        have CD := hide (drop_walk B L c u x _ ys w3 HD3.out hyl)
        have l3' := HD3.out.head.cell 3 (.pointer (some ⟨c, 0, none⟩)) rfl
        have c2' := HD3.out.seg.1.cell 2 (.int .i64 x2) rfl
        clear hb3 HD HB CM l3 l0 lf c0 c1 c2 c3 c4 c5 cf
        cases hm : (decide (x3 = 1) && !x4) with
        | true =>
          have HS2 : Hid (ackS ack ((xs ++ [(c, PieceM.mk x0 x1 x2 x3 x4 x5)]).map Prod.snd) = x2) := hide (by rw [HS.out, if_pos (by cases x4 <;> simp_all)])
          go_wp2_with fail
          refine CD.out.mono ?_
          rintro e w4 ⟨rfl, hD4, hB4, hF4⟩
          have HFr4 := hide (HFr3.out.trans (hF4.mono HSub.out))
          have HB5 : Hid (Below B w w4) := hide (HB3.out.trans hB4)
          have HD4 := hide hD4
          have HL2 := hide (nAt_DL hD4)
          clear hD4 hB4 hF4
          go_wp2_with fail
          exact ⟨⟨_, ys, hxs, by rw [HS2.out], HA2, HD4, HB5, HFr4⟩, by rw [HL1.out, HL2.out]; simp⟩
        | false =>
          have HS2 : Hid (ackS ack ((xs ++ [(c, PieceM.mk x0 x1 x2 x3 x4 x5)]).map Prod.snd) = s) := hide (by rw [HS.out, if_neg (by cases x4 <;> simp_all)])
          go_wp2_with fail
          refine CD.out.mono ?_
          rintro e w4 ⟨rfl, hD4, hB4, hF4⟩
          have HFr4 := hide (HFr3.out.trans (hF4.mono HSub.out))
          have HB5 : Hid (Below B w w4) := hide (HB3.out.trans hB4)
          have HD4 := hide hD4
          have HL2 := hide (nAt_DL hD4)
          clear hD4 hB4 hF4
          go_wp2_with fail
          exact ⟨⟨_, ys, hxs, by rw [HS2.out], HA2, HD4, HB5, HFr4⟩, by rw [HL1.out, HL2.out]; simp⟩
      · have HF : Hid (ackH ack (ns.map Prod.snd) = frsL ack (((c, PieceM.mk x0 x1 x2 x3 x4 x5) :: ys).map Prod.snd) ∧ ackS ack (ns.map Prod.snd) = ackS ack (xs.map Prod.snd)) := hide (by
          have h := ack_split (a := xs.map Prod.snd) (b := ((c, PieceM.mk x0 x1 x2 x3 x4 x5) :: ys).map Prod.snd) (by have h := HOK.out; rw [HXY.out, List.map_append] at h; exact h) HU.out HA.out (fun o r e => by
            simp at e
            rw [← e.1]
            exact Int.not_le.1 hd)
          rw [HXY.out, List.map_append]
          exact h)
        generalize ackS ack (xs.map Prod.snd) = s at *
        have HD1 : Hid (DL (wk.setCell ⟨c, 0, none⟩ (.int .i64 ack)) B L u x ((c, ⟨ack, x1, x2, x3, x4, x5⟩) :: ys)) := hide (HD.out.put (xs := []) (o' := ⟨ack, x1, x2, x3, x4, x5⟩) (hv_set HD.out.seg.1 0 (.int .i64 ack)) (fun k hk _ => heap_setCell_other _ _ k _ hk))
        have l0' := HD1.out.head.cell 0 _ rfl; have lf' := HD1.out.head.frozen
        have HFr1 := hide (HFr.out.set (c := c) (by rw [HXY.out]; simp [bks]) 0 (.int .i64 ack))
        have HSub : Hid (SubB ((c, PieceM.mk ack x1 x2 x3 x4 x5) :: ys) ns) := hide (by rw [HXY.out]; intro b hb; simp [bks] at hb ⊢; rcases hb with h | h <;> simp [h])
        have HB1 : Hid (Below B w (wk.setCell ⟨c, 0, none⟩ (.int .i64 ack))) := hide (HB.out.setCell (p := ⟨c, 0, none⟩) HCB.out _)
        go_wp2_with fail
        go_ret
        exact ⟨ret_int HF.out.2.symm, (c, ⟨ack, x1, x2, x3, x4, x5⟩) :: ys, HD1.out.setu ack, HF.out.1.symm, HB1.out.setCell (p := ⟨L, 0, none⟩) HLB.out _, HFr1.out.set (by simp) 0 _, HSub.out⟩
end Go.Proofs.Ytddkcgngpclgfab
