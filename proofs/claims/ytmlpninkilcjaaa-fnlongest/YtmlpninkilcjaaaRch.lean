/-
Contracts of functions of this seat.
-/
import Derived.Test.YtmlpninkilcjaaaRows
import Derived.WalkKit
import Derived.ProofKit
import Derived.OpenShut
import Derived.Test.YtmlpninkilcjaaaThp
import Derived.Deep.CutRange
import Derived.Deep.DeepCutAuto
import Derived.Deep.RegionHeld3
import Derived.Deep.QuietTactic
import Derived.BigQuiet
namespace Go.Proofs.Ytmlpninkilcjaaa
open Go.ChangeShapes Go.WideShapes Go.ChangeAt Go.RowKit
set_option linter.unusedVariables false
set_option maxRecDepth 100000
/-- The bits of the node that a slot points at. -/
def bitsAt (v : Value) (w : World) : Nat := match v with
  | .pointer (some p) => (match w.cell? ⟨p.block, 1, none⟩ with | some (.int _ z) => z.toNat | _ => 0)
  | _ => 0
theorem bitsAt_of {w : World} {n : Nat} {r : Rec} (h : HoldV w n (nodeV r) ndT) : bitsAt (.pointer (some ⟨n, 0, none⟩)) w = r.b := by
  have e := h.cell 1 (.int .i64 (r.b : Int)) rfl
  show (match w.cell? ⟨n, 1, none⟩ with | some (.int _ z) => z.toNat | _ => 0) = r.b
  rw [e]
  show ((r.b : Int)).toNat = r.b
  omega
theorem ptr_form (o : Option Nat) : ptrV o = match o with | none => .pointer none | some n => .pointer (some ⟨n, 0, none⟩) := by cases o <;> rfl
theorem Kept.hold {W0 W : World} {G G1 : Gr} {b T : Nat} {vs : Array Value} (h : Kept W0 W G G1) (hb : HoldV W0 b vs T) (hg : G b = none) : HoldV W b vs T := (h b hb.lt hg).1.trans hb
theorem RI.of_box {w W0 W : World} {o : Obj} {B0 root : Nat} {rv : Nat → Array Value} {f : Nat → Nat → Option Nat} {G G1 : Gr} {pa pb n : Nat} {r : Rec} (e : w.alloc o = W0) (h : RI W0 W B0 root rv f G G1 pa pb n r) (hB : B0 ≤ w.heap.size) : RI w W B0 root rv f G G1 pa pb n r := by
  subst e
  have hb := (Below.refl w.heap.size w).alloc (Nat.le_refl _) o
  refine ⟨h.ok, h.hung, h.th, h.at_, h.le, h.top, (hb.mono hB).trans h.below, fun b hl hg => ?_, hB⟩
  obtain ⟨h1, h2⟩ := h.kept b (by rw [World.size_alloc]; omega) hg
  exact ⟨h1.trans (hb.block b hl), h2⟩
set_option maxHeartbeats 8000000 in
theorem reach_walk (root : Nat) (G : Gr) (f : Nat → Nat → Option Nat) (rv : Nat → Array Value) (pa pb B0 : Nat) (w : World) (hG : TrOk G root) (hF : Hung G root f) (hT : TH w B0 rv G) (hp : vP pa pb) (hB0 : B0 ≤ w.heap.size) :
    Calls Try.prog 68 #[.pointer (some ⟨root, 0, none⟩), .agg #[.int .i64 (pa : Int), .int .i64 (pb : Int)]] w fun e w' =>
      ∃ n G1 r, e = .returned (.pointer (some ⟨n, 0, none⟩)) ∧ RI w w' B0 root rv f G G1 pa pb n r ∧ r.a = pa ∧ r.b = pb := by
  have hb0 := (Below.refl w.heap.size w).alloc (Nat.le_refl _) (.cells #[.int .i64 (pa : Int), .int .i64 (pb : Int)] prT)
  have HP0 : Hid (HoldV (w.alloc (.cells #[.int .i64 (pa : Int), .int .i64 (pb : Int)] prT)) w.heap.size #[.int .i64 (pa : Int), .int .i64 (pb : Int)] prT) := hide (HoldV.new _ _ _)
  have HG0 : Hid (G w.heap.size = none) := hide (hT.fresh _ (Nat.le_refl _))
  have HV := hide hp
  have HBW := hide hb0
  have HR0 : Hid (∃ G1 r, RI (w.alloc (.cells #[.int .i64 (pa : Int), .int .i64 (pb : Int)] prT)) (w.alloc (.cells #[.int .i64 (pa : Int), .int .i64 (pb : Int)] prT)) B0 root rv f G G1 pa pb root r) := hide (by
    obtain ⟨r0, g0, ga, gb⟩ := hG.rt
    refine ⟨G, r0, hG, hF, hT.next hb0, g0, by omega, ?_, Below.refl _ _, Kept.refl _ _, Nat.le_trans hB0 hb0.size⟩
    rw [ga, gb]
    unfold topB
    rw [Nat.div_eq_of_lt (by have := hp.2.1; omega)]
    first | done | rfl)
  have heq := fun a b => eqPref a b (pa : Int) (pb : Int)
  have HEQ := hide heq
  clear heq hb0 hG hF hT hp
  go_enter Try.func68, Try.ntmps68
  go_wp2_with fail
  generalize hW : w.alloc (.cells #[.int .i64 (pa : Int), .int .i64 (pb : Int)] 25) = W0 at *
  have HW := hide hW
  clear hW
  generalize hPP : w.heap.size = PP at *
  have HSZ := hide hPP
  clear hPP
  go_loopw [0] (fun t wr => ∃ n, t = .pointer (some ⟨n, 0, none⟩) ∧ Hid (∃ G1 r, RI W0 wr B0 root rv f G G1 pa pb n r)) (fun t wr => pb - bitsAt t wr)
  case atStart => exact ⟨root, rfl, HR0⟩
  case round =>
    obtain ⟨n, rfl, HR⟩ := hrel
    obtain ⟨G1, r, HI⟩ := HR.out
    have HI := hide HI
    clear HR
    have HN : Hid (HoldV wr n (nodeV r) ndT) := hide (HI.out.th.node n r HI.out.at_).1
    have HPP : Hid (HoldV wr PP #[.int .i64 (pa : Int), .int .i64 (pb : Int)] prT) := hide (HI.out.kept.hold HP0.out HG0.out)
    have n0 := HN.out.cell 0 (.int .i64 (r.a : Int)) rfl
    have n1 := HN.out.cell 1 (.int .i64 (r.b : Int)) rfl
    have p0 := HPP.out.cell 0 (.int .i64 (pa : Int)) rfl
    have p1 := HPP.out.cell 1 (.int .i64 (pb : Int)) rfl
    have heq := HEQ.out (r.a : Int) (r.b : Int)
    by_cases hend : r.b = pb
    · have hE : ((r.a : Int) == (pa : Int) && (r.b : Int) == (pb : Int)) = true := by
        have h1 := HI.out.top
        have h2 := HI.out.ok.val _ _ HI.out.at_
        have h3 := HV.out
        rw [← hend] at h3
        rw [vP_eq h3 h2 h1, hend]
        simp
      have HEND := hide hend
      clear hend
      rw [hE] at heq
      clear hE
      go_wp2_with fail
      go_quiet (fail)
      go_wp2_with fail
      go_ret
      exact ⟨n, G1, r, rfl, RI.of_box HW.out (HI.out.drewN nq) (by rw [HSZ.out]; exact hB0), (by have h3 := HV.out; rw [← HEND.out] at h3; exact (vP_eq h3 (HI.out.ok.val _ _ HI.out.at_) HI.out.top).symm), HEND.out⟩
    · have hE : ((r.a : Int) == (pa : Int) && (r.b : Int) == (pb : Int)) = false := by
        have hq : ((r.b : Int) == (pb : Int)) = false := by simp; omega
        rw [hq, Bool.and_false]
      rw [hE] at heq
      have hlt : r.b < pb := by have := HI.out.le; omega
      go_wp2_with fail
      go_quiet (fail)
      have HI2 := hide (HI.out.drewN nq)
      have HPP2 : Hid (HoldV (wr.drewN nq) PP #[.int .i64 (pa : Int), .int .i64 (pb : Int)] prT) := HPP
      have HM : Hid (bitsAt (.pointer (some ⟨n, 0, none⟩)) wr = r.b) := hide (bitsAt_of HN.out)
      generalize wr.drewN nq = wq at *
      clear HI HN HPP n0 n1 p0 p1 heq hE
      have HN : Hid (HoldV wq n (nodeV r) ndT) := hide (HI2.out.th.node n r HI2.out.at_).1
      have n0 := HN.out.cell 0 (.int .i64 (r.a : Int)) rfl
      have n1 := HN.out.cell 1 (.int .i64 (r.b : Int)) rfl
      have nf := HN.out.frozen
      have p0 := HPP2.out.cell 0 (.int .i64 (pa : Int)) rfl
      have p1 := HPP2.out.cell 1 (.int .i64 (pb : Int)) rfl
      have CS := hide (side_walk n (r.a : Int) (r.b : Int) _ _ _ (pa : Int) wq (by omega) (by have := HV.out.2.1; omega) (by omega) (by have := HV.out.1; omega) HN.out)
      rw [side_bit pa r.b (by have := HV.out.1; omega)] at CS
      have hK : bitB pa r.b = 0 ∨ bitB pa r.b = 1 := by have := bitB_lt pa r.b; omega
      rcases hK with hK | hK
      · rw [hK] at CS
        cases hs : r.s0 with
        | none =>
          have n3' : wq.cell? ⟨n, 3, none⟩ = some (.pointer none) := by have := HN.out.cell 3 (ptrV r.s0) rfl; rw [hs] at this; exact this
          have HNA : Hid (∀ o, HoldV (wq.alloc o) n (nodeV r) ndT) := hide (fun o => HN.out.next ((Below.refl _ _).alloc (Nat.le_refl _) o))
          have m3 : ∀ o, (wq.alloc o).cell? ⟨n, 3, none⟩ = some (.pointer none) := fun o => by have := (HNA.out o).cell 3 (ptrV r.s0) rfl; rw [hs] at this; exact this
          have mf : ∀ o q, (wq.alloc o).frozen? ⟨n, q, none⟩ = false := fun o => (HNA.out o).frozen
          have HX : Hid (∃ G2 r2 c rc, RI W0 (((wq.alloc (.cells #[.int .i64 (pa : Int), .int .i64 (pb : Int), .pointer none, .pointer none, .pointer none] 81)).setCell ⟨n, 3, none⟩ (.pointer (some ⟨wq.heap.size, 0, none⟩))).drew) B0 root rv f G G2 pa pb n r2 ∧ r2.b = r.b ∧ r2.sd 0 = some c ∧ G2 c = some rc) := hide ⟨_, _, wq.heap.size, _, (HI2.out.leaf HV.out hlt 0 hK hs).next (Below.refl _ _).drew, Rec.set_b _ _ _, Rec.set_same _ _ _, leafG_c _ _ _ _ _ _ _ (by have := HN.out.lt; omega)⟩
          clear hs
          go_wp2_with ((go_at_call 45; refine CS.out.mono ?_; rintro e wy ⟨rfl, rfl⟩))
          go_region
          go_wp2_with fail
          clear n0 n1 n3' nf m3 mf CS p0 p1 HN HPP2 HNA HI2
          generalize (((wy.alloc (.cells #[.int .i64 (pa : Int), .int .i64 (pb : Int), .pointer none, .pointer none, .pointer none] 81)).setCell ⟨n, 3, none⟩ (.pointer (some ⟨wy.heap.size, 0, none⟩))).drew) = wx at *
          obtain ⟨G2, r2, c, rc, hix, hrb, hs2, hc2⟩ := HX.out
          have HIX := hide hix
          have HRB := hide hrb
          have HS2 := hide hs2
          have HC := hide hc2
          clear hix hrb hs2 hc2 HX
          have HN2 : Hid (HoldV wx n (nodeV r2) ndT) := hide (HIX.out.th.node n r2 HIX.out.at_).1
          have HC2 : Hid (HoldV wx c (nodeV rc) ndT) := hide (HIX.out.th.node c rc HC.out).1
          have HPX : Hid (HoldV wx PP #[.int .i64 (pa : Int), .int .i64 (pb : Int)] prT) := hide (HIX.out.kept.hold HP0.out HG0.out)
          have q0 := HPX.out.cell 0 (.int .i64 (pa : Int)) rfl
          have q1 := HPX.out.cell 1 (.int .i64 (pb : Int)) rfl
          have n3 : wx.cell? ⟨n, 3, none⟩ = some (.pointer (some ⟨c, 0, none⟩)) := by have h := HN2.out.cell 3 (ptrV r2.s0) rfl; have e : r2.s0 = some c := HS2.out; rw [e] at h; exact h
          have nf := HN2.out.frozen
          have HVC : Hid (vP rc.a rc.b) := hide (HIX.out.ok.val _ _ HC.out)
          obtain ⟨m, hm, hm1, hm2, hm3, hm4⟩ := comB_facts HVC.out HV.out
          have HCA := hide (fun W (hW : HoldV W c (nodeV rc) ndT) => around_walk0 c rc.a rc.b pa pb _ _ _ W HVC.out HV.out m hm1 hm hW)
          have HK2 := hide (HIX.out.ok.kid n r2 HIX.out.at_ 0 (by decide) c HS2.out)
          have HM3 := hide hm3
          have HM4 := hide hm4
          clear hm hm3 hm4
          by_cases hmr : m = rc.b
          · have CA : Hid (∀ _ : Nat, Calls Try.prog 79 #[.pointer (some ⟨c, 0, none⟩), .agg #[.int .i64 (pa : Int), .int .i64 (pb : Int)]] wx.drew fun e wz => e = .returned (.pointer (some ⟨c, 0, none⟩)) ∧ Below wx.drew.heap.size wx.drew wz) := hide (fun (_ : Nat) => (HCA.out _ HC2.out.drew).mono (by
              rintro e w2 ⟨h1, ⟨_, h2⟩ | ⟨h2, _⟩⟩
              · exact ⟨h2, h1⟩
              · omega))
            have HDN : Hid (∀ w2, Below wx.drew.heap.size wx.drew w2 → RI W0 (w2.setCell ⟨n, 3, none⟩ (.pointer (some ⟨c, 0, none⟩))) B0 root rv f G G2 pa pb c rc) := hide (fun w2 hb => (HIX.out.next (((Below.refl wx.heap.size wx).drew).trans hb)).down 0 (by decide) HS2.out HC.out (by omega) (by rw [← hmr]; exact HM3.out))
            have HLT : Hid (r2.b < rc.b) := hide (by obtain ⟨rc0, e1, e2, _⟩ := HK2.out; rw [HC.out] at e1; cases e1; exact e2)
            have HLE : Hid (rc.b ≤ pb) := hide (by omega)
            clear HCA HK2 hmr hm1 hm2
            go_region_with ((go_at_call 79; refine (CA.out 0).mono ?_; rintro e w1 ⟨rfl, hb1⟩; have HN3 := HN2.out.drew.next hb1; have g3 := HN3.cell 3 (ptrV r2.s0) rfl; have gf := HN3.frozen))
            all_goals (go_wp2_with fail)
            all_goals (have hfin := HDN.out w1 hb1; refine ⟨⟨c, rfl, hide ⟨_, _, hfin⟩⟩, ?_⟩; rw [HM.out, bitsAt_of (hfin.th.node _ _ hfin.at_).1]; have h1 := HLT.out; have h2 := HLE.out; have h3 := HRB.out; omega)
          · have CA : Hid (∀ _ : Nat, Calls Try.prog 79 #[.pointer (some ⟨c, 0, none⟩), .agg #[.int .i64 (pa : Int), .int .i64 (pb : Int)]] wx.drew fun e wz => ∃ F, e = .returned (.pointer (some ⟨F, 0, none⟩)) ∧ Below wx.drew.heap.size wx.drew wz ∧ wx.heap.size ≤ F ∧ HoldV wz F (nodeV (forkR (mskN rc.a m) m (bitB rc.a m) c)) ndT) := hide (fun (_ : Nat) => (HCA.out _ HC2.out.drew).mono (by
              rintro e w2 ⟨h1, ⟨h2, _⟩ | ⟨_, F, h2, h3, h4⟩⟩
              · omega
              · exact ⟨F, h2, h1, h3, h4⟩))
            have HRL : Hid (r2.b < pb) := hide (by rw [HRB.out]; exact hlt)
            have HBT : Hid (bitB pa r2.b = 0) := hide (by rw [HRB.out]; exact hK)
            have HDD : Hid (m < pb → bitB rc.a m ≠ bitB pa m) := hide (fun h => HM4.out (by omega) h)
            have HDN : Hid (∀ w2 F, Below wx.drew.heap.size wx.drew w2 → wx.heap.size ≤ F → HoldV w2 F (nodeV (forkR (mskN rc.a m) m (bitB rc.a m) c)) ndT → RI W0 (w2.setCell ⟨n, 3, none⟩ (.pointer (some ⟨F, 0, none⟩))) B0 root rv f G (forkG G2 n r2 0 F (mskN rc.a m) m (bitB rc.a m) c) pa pb F (forkR (mskN rc.a m) m (bitB rc.a m) c)) := hide (fun w2 F hb hF hH => HIX.out.fork 0 HV.out HRL.out HBT.out HS2.out HC.out (by omega) hm2 HM3.out HDD.out hF (((Below.refl wx.heap.size wx).drew).trans hb) hH)
            have HLT : Hid (r2.b < m) := hide (HIX.out.fork_lt 0 HV.out HRL.out HBT.out HS2.out HC.out HDD.out)
            have HLE : Hid (m ≤ pb) := hide hm2
            clear HCA HK2 hmr hm1 hm2
            go_region_with ((go_at_call 79; refine (CA.out 0).mono ?_; rintro e w1 ⟨F, rfl, hb1, hF, hH⟩; have HN3 := HN2.out.drew.next hb1; have g3 := HN3.cell 3 (ptrV r2.s0) rfl; have gf := HN3.frozen))
            all_goals (go_wp2_with fail)
            all_goals (have hfin := HDN.out w1 F hb1 hF hH; refine ⟨⟨F, rfl, hide ⟨_, _, hfin⟩⟩, ?_⟩; rw [HM.out, bitsAt_of (hfin.th.node _ _ hfin.at_).1, forkR_b]; have h1 := HLT.out; have h2 := HLE.out; have h3 := HRB.out; omega)
        | some c0 =>
          have n3' : wq.cell? ⟨n, 3, none⟩ = some (.pointer (some ⟨c0, 0, none⟩)) := by have := HN.out.cell 3 (ptrV r.s0) rfl; rw [hs] at this; exact this
          have HX : Hid (∃ G2 r2 c rc, RI W0 wq B0 root rv f G G2 pa pb n r2 ∧ r2.b = r.b ∧ r2.sd 0 = some c ∧ G2 c = some rc) := hide (by
            obtain ⟨rc, hrc, _⟩ := HI2.out.ok.kid n r HI2.out.at_ 0 (by decide) c0 hs
            exact ⟨_, _, c0, rc, HI2.out, rfl, hs, hrc⟩)
          clear hs
          go_wp2_with ((go_at_call 45; refine CS.out.mono ?_; rintro e wx ⟨rfl, rfl⟩))
          clear n0 n1 n3' nf CS p0 p1 HN HPP2 HI2
          obtain ⟨G2, r2, c, rc, hix, hrb, hs2, hc2⟩ := HX.out
          have HIX := hide hix
          have HRB := hide hrb
          have HS2 := hide hs2
          have HC := hide hc2
          clear hix hrb hs2 hc2 HX
          have HN2 : Hid (HoldV wx n (nodeV r2) ndT) := hide (HIX.out.th.node n r2 HIX.out.at_).1
          have HC2 : Hid (HoldV wx c (nodeV rc) ndT) := hide (HIX.out.th.node c rc HC.out).1
          have HPX : Hid (HoldV wx PP #[.int .i64 (pa : Int), .int .i64 (pb : Int)] prT) := hide (HIX.out.kept.hold HP0.out HG0.out)
          have q0 := HPX.out.cell 0 (.int .i64 (pa : Int)) rfl
          have q1 := HPX.out.cell 1 (.int .i64 (pb : Int)) rfl
          have n3 : wx.cell? ⟨n, 3, none⟩ = some (.pointer (some ⟨c, 0, none⟩)) := by have h := HN2.out.cell 3 (ptrV r2.s0) rfl; have e : r2.s0 = some c := HS2.out; rw [e] at h; exact h
          have nf := HN2.out.frozen
          have HVC : Hid (vP rc.a rc.b) := hide (HIX.out.ok.val _ _ HC.out)
          obtain ⟨m, hm, hm1, hm2, hm3, hm4⟩ := comB_facts HVC.out HV.out
          have HCA := hide (fun W (hW : HoldV W c (nodeV rc) ndT) => around_walk0 c rc.a rc.b pa pb _ _ _ W HVC.out HV.out m hm1 hm hW)
          have HK2 := hide (HIX.out.ok.kid n r2 HIX.out.at_ 0 (by decide) c HS2.out)
          have HM3 := hide hm3
          have HM4 := hide hm4
          clear hm hm3 hm4
          by_cases hmr : m = rc.b
          · have CA : Hid (∀ _ : Nat, Calls Try.prog 79 #[.pointer (some ⟨c, 0, none⟩), .agg #[.int .i64 (pa : Int), .int .i64 (pb : Int)]] wx.drew fun e wz => e = .returned (.pointer (some ⟨c, 0, none⟩)) ∧ Below wx.drew.heap.size wx.drew wz) := hide (fun (_ : Nat) => (HCA.out _ HC2.out.drew).mono (by
              rintro e w2 ⟨h1, ⟨_, h2⟩ | ⟨h2, _⟩⟩
              · exact ⟨h2, h1⟩
              · omega))
            have HDN : Hid (∀ w2, Below wx.drew.heap.size wx.drew w2 → RI W0 (w2.setCell ⟨n, 3, none⟩ (.pointer (some ⟨c, 0, none⟩))) B0 root rv f G G2 pa pb c rc) := hide (fun w2 hb => (HIX.out.next (((Below.refl wx.heap.size wx).drew).trans hb)).down 0 (by decide) HS2.out HC.out (by omega) (by rw [← hmr]; exact HM3.out))
            have HLT : Hid (r2.b < rc.b) := hide (by obtain ⟨rc0, e1, e2, _⟩ := HK2.out; rw [HC.out] at e1; cases e1; exact e2)
            have HLE : Hid (rc.b ≤ pb) := hide (by omega)
            clear HCA HK2 hmr hm1 hm2
            go_region_with ((go_at_call 79; refine (CA.out 0).mono ?_; rintro e w1 ⟨rfl, hb1⟩; have HN3 := HN2.out.drew.next hb1; have g3 := HN3.cell 3 (ptrV r2.s0) rfl; have gf := HN3.frozen))
            all_goals (go_wp2_with fail)
            all_goals (have hfin := HDN.out w1 hb1; refine ⟨⟨c, rfl, hide ⟨_, _, hfin⟩⟩, ?_⟩; rw [HM.out, bitsAt_of (hfin.th.node _ _ hfin.at_).1]; have h1 := HLT.out; have h2 := HLE.out; have h3 := HRB.out; omega)
          · have CA : Hid (∀ _ : Nat, Calls Try.prog 79 #[.pointer (some ⟨c, 0, none⟩), .agg #[.int .i64 (pa : Int), .int .i64 (pb : Int)]] wx.drew fun e wz => ∃ F, e = .returned (.pointer (some ⟨F, 0, none⟩)) ∧ Below wx.drew.heap.size wx.drew wz ∧ wx.heap.size ≤ F ∧ HoldV wz F (nodeV (forkR (mskN rc.a m) m (bitB rc.a m) c)) ndT) := hide (fun (_ : Nat) => (HCA.out _ HC2.out.drew).mono (by
              rintro e w2 ⟨h1, ⟨h2, _⟩ | ⟨_, F, h2, h3, h4⟩⟩
              · omega
              · exact ⟨F, h2, h1, h3, h4⟩))
            have HRL : Hid (r2.b < pb) := hide (by rw [HRB.out]; exact hlt)
            have HBT : Hid (bitB pa r2.b = 0) := hide (by rw [HRB.out]; exact hK)
            have HDD : Hid (m < pb → bitB rc.a m ≠ bitB pa m) := hide (fun h => HM4.out (by omega) h)
            have HDN : Hid (∀ w2 F, Below wx.drew.heap.size wx.drew w2 → wx.heap.size ≤ F → HoldV w2 F (nodeV (forkR (mskN rc.a m) m (bitB rc.a m) c)) ndT → RI W0 (w2.setCell ⟨n, 3, none⟩ (.pointer (some ⟨F, 0, none⟩))) B0 root rv f G (forkG G2 n r2 0 F (mskN rc.a m) m (bitB rc.a m) c) pa pb F (forkR (mskN rc.a m) m (bitB rc.a m) c)) := hide (fun w2 F hb hF hH => HIX.out.fork 0 HV.out HRL.out HBT.out HS2.out HC.out (by omega) hm2 HM3.out HDD.out hF (((Below.refl wx.heap.size wx).drew).trans hb) hH)
            have HLT : Hid (r2.b < m) := hide (HIX.out.fork_lt 0 HV.out HRL.out HBT.out HS2.out HC.out HDD.out)
            have HLE : Hid (m ≤ pb) := hide hm2
            clear HCA HK2 hmr hm1 hm2
            go_region_with ((go_at_call 79; refine (CA.out 0).mono ?_; rintro e w1 ⟨F, rfl, hb1, hF, hH⟩; have HN3 := HN2.out.drew.next hb1; have g3 := HN3.cell 3 (ptrV r2.s0) rfl; have gf := HN3.frozen))
            all_goals (go_wp2_with fail)
            all_goals (have hfin := HDN.out w1 F hb1 hF hH; refine ⟨⟨F, rfl, hide ⟨_, _, hfin⟩⟩, ?_⟩; rw [HM.out, bitsAt_of (hfin.th.node _ _ hfin.at_).1, forkR_b]; have h1 := HLT.out; have h2 := HLE.out; have h3 := HRB.out; omega)
      · rw [hK] at CS
        cases hs : r.s1 with
        | none =>
          have n3' : wq.cell? ⟨n, 4, none⟩ = some (.pointer none) := by have := HN.out.cell 4 (ptrV r.s1) rfl; rw [hs] at this; exact this
          have HNA : Hid (∀ o, HoldV (wq.alloc o) n (nodeV r) ndT) := hide (fun o => HN.out.next ((Below.refl _ _).alloc (Nat.le_refl _) o))
          have m3 : ∀ o, (wq.alloc o).cell? ⟨n, 4, none⟩ = some (.pointer none) := fun o => by have := (HNA.out o).cell 4 (ptrV r.s1) rfl; rw [hs] at this; exact this
          have mf : ∀ o q, (wq.alloc o).frozen? ⟨n, q, none⟩ = false := fun o => (HNA.out o).frozen
          have HX : Hid (∃ G2 r2 c rc, RI W0 (((wq.alloc (.cells #[.int .i64 (pa : Int), .int .i64 (pb : Int), .pointer none, .pointer none, .pointer none] 81)).setCell ⟨n, 4, none⟩ (.pointer (some ⟨wq.heap.size, 0, none⟩))).drew) B0 root rv f G G2 pa pb n r2 ∧ r2.b = r.b ∧ r2.sd 1 = some c ∧ G2 c = some rc) := hide ⟨_, _, wq.heap.size, _, (HI2.out.leaf HV.out hlt 1 hK hs).next (Below.refl _ _).drew, Rec.set_b _ _ _, Rec.set_same _ _ _, leafG_c _ _ _ _ _ _ _ (by have := HN.out.lt; omega)⟩
          clear hs
          go_wp2_with ((go_at_call 45; refine CS.out.mono ?_; rintro e wy ⟨rfl, rfl⟩))
          go_region
          go_wp2_with fail
          clear n0 n1 n3' nf m3 mf CS p0 p1 HN HPP2 HNA HI2
          generalize (((wy.alloc (.cells #[.int .i64 (pa : Int), .int .i64 (pb : Int), .pointer none, .pointer none, .pointer none] 81)).setCell ⟨n, 4, none⟩ (.pointer (some ⟨wy.heap.size, 0, none⟩))).drew) = wx at *
          obtain ⟨G2, r2, c, rc, hix, hrb, hs2, hc2⟩ := HX.out
          have HIX := hide hix
          have HRB := hide hrb
          have HS2 := hide hs2
          have HC := hide hc2
          clear hix hrb hs2 hc2 HX
          have HN2 : Hid (HoldV wx n (nodeV r2) ndT) := hide (HIX.out.th.node n r2 HIX.out.at_).1
          have HC2 : Hid (HoldV wx c (nodeV rc) ndT) := hide (HIX.out.th.node c rc HC.out).1
          have HPX : Hid (HoldV wx PP #[.int .i64 (pa : Int), .int .i64 (pb : Int)] prT) := hide (HIX.out.kept.hold HP0.out HG0.out)
          have q0 := HPX.out.cell 0 (.int .i64 (pa : Int)) rfl
          have q1 := HPX.out.cell 1 (.int .i64 (pb : Int)) rfl
          have n3 : wx.cell? ⟨n, 4, none⟩ = some (.pointer (some ⟨c, 0, none⟩)) := by have h := HN2.out.cell 4 (ptrV r2.s1) rfl; have e : r2.s1 = some c := HS2.out; rw [e] at h; exact h
          have nf := HN2.out.frozen
          have HVC : Hid (vP rc.a rc.b) := hide (HIX.out.ok.val _ _ HC.out)
          obtain ⟨m, hm, hm1, hm2, hm3, hm4⟩ := comB_facts HVC.out HV.out
          have HCA := hide (fun W (hW : HoldV W c (nodeV rc) ndT) => around_walk0 c rc.a rc.b pa pb _ _ _ W HVC.out HV.out m hm1 hm hW)
          have HK2 := hide (HIX.out.ok.kid n r2 HIX.out.at_ 1 (by decide) c HS2.out)
          have HM3 := hide hm3
          have HM4 := hide hm4
          clear hm hm3 hm4
          by_cases hmr : m = rc.b
          · have CA : Hid (∀ _ : Nat, Calls Try.prog 79 #[.pointer (some ⟨c, 0, none⟩), .agg #[.int .i64 (pa : Int), .int .i64 (pb : Int)]] wx.drew fun e wz => e = .returned (.pointer (some ⟨c, 0, none⟩)) ∧ Below wx.drew.heap.size wx.drew wz) := hide (fun (_ : Nat) => (HCA.out _ HC2.out.drew).mono (by
              rintro e w2 ⟨h1, ⟨_, h2⟩ | ⟨h2, _⟩⟩
              · exact ⟨h2, h1⟩
              · omega))
            have HDN : Hid (∀ w2, Below wx.drew.heap.size wx.drew w2 → RI W0 (w2.setCell ⟨n, 4, none⟩ (.pointer (some ⟨c, 0, none⟩))) B0 root rv f G G2 pa pb c rc) := hide (fun w2 hb => (HIX.out.next (((Below.refl wx.heap.size wx).drew).trans hb)).down 1 (by decide) HS2.out HC.out (by omega) (by rw [← hmr]; exact HM3.out))
            have HLT : Hid (r2.b < rc.b) := hide (by obtain ⟨rc0, e1, e2, _⟩ := HK2.out; rw [HC.out] at e1; cases e1; exact e2)
            have HLE : Hid (rc.b ≤ pb) := hide (by omega)
            clear HCA HK2 hmr hm1 hm2
            go_region_with ((go_at_call 79; refine (CA.out 0).mono ?_; rintro e w1 ⟨rfl, hb1⟩; have HN3 := HN2.out.drew.next hb1; have g3 := HN3.cell 4 (ptrV r2.s1) rfl; have gf := HN3.frozen))
            all_goals (go_wp2_with fail)
            all_goals (have hfin := HDN.out w1 hb1; refine ⟨⟨c, rfl, hide ⟨_, _, hfin⟩⟩, ?_⟩; rw [HM.out, bitsAt_of (hfin.th.node _ _ hfin.at_).1]; have h1 := HLT.out; have h2 := HLE.out; have h3 := HRB.out; omega)
          · have CA : Hid (∀ _ : Nat, Calls Try.prog 79 #[.pointer (some ⟨c, 0, none⟩), .agg #[.int .i64 (pa : Int), .int .i64 (pb : Int)]] wx.drew fun e wz => ∃ F, e = .returned (.pointer (some ⟨F, 0, none⟩)) ∧ Below wx.drew.heap.size wx.drew wz ∧ wx.heap.size ≤ F ∧ HoldV wz F (nodeV (forkR (mskN rc.a m) m (bitB rc.a m) c)) ndT) := hide (fun (_ : Nat) => (HCA.out _ HC2.out.drew).mono (by
              rintro e w2 ⟨h1, ⟨h2, _⟩ | ⟨_, F, h2, h3, h4⟩⟩
              · omega
              · exact ⟨F, h2, h1, h3, h4⟩))
            have HRL : Hid (r2.b < pb) := hide (by rw [HRB.out]; exact hlt)
            have HBT : Hid (bitB pa r2.b = 1) := hide (by rw [HRB.out]; exact hK)
            have HDD : Hid (m < pb → bitB rc.a m ≠ bitB pa m) := hide (fun h => HM4.out (by omega) h)
            have HDN : Hid (∀ w2 F, Below wx.drew.heap.size wx.drew w2 → wx.heap.size ≤ F → HoldV w2 F (nodeV (forkR (mskN rc.a m) m (bitB rc.a m) c)) ndT → RI W0 (w2.setCell ⟨n, 4, none⟩ (.pointer (some ⟨F, 0, none⟩))) B0 root rv f G (forkG G2 n r2 1 F (mskN rc.a m) m (bitB rc.a m) c) pa pb F (forkR (mskN rc.a m) m (bitB rc.a m) c)) := hide (fun w2 F hb hF hH => HIX.out.fork 1 HV.out HRL.out HBT.out HS2.out HC.out (by omega) hm2 HM3.out HDD.out hF (((Below.refl wx.heap.size wx).drew).trans hb) hH)
            have HLT : Hid (r2.b < m) := hide (HIX.out.fork_lt 1 HV.out HRL.out HBT.out HS2.out HC.out HDD.out)
            have HLE : Hid (m ≤ pb) := hide hm2
            clear HCA HK2 hmr hm1 hm2
            go_region_with ((go_at_call 79; refine (CA.out 0).mono ?_; rintro e w1 ⟨F, rfl, hb1, hF, hH⟩; have HN3 := HN2.out.drew.next hb1; have g3 := HN3.cell 4 (ptrV r2.s1) rfl; have gf := HN3.frozen))
            all_goals (go_wp2_with fail)
            all_goals (have hfin := HDN.out w1 F hb1 hF hH; refine ⟨⟨F, rfl, hide ⟨_, _, hfin⟩⟩, ?_⟩; rw [HM.out, bitsAt_of (hfin.th.node _ _ hfin.at_).1, forkR_b]; have h1 := HLT.out; have h2 := HLE.out; have h3 := HRB.out; omega)
        | some c0 =>
          have n3' : wq.cell? ⟨n, 4, none⟩ = some (.pointer (some ⟨c0, 0, none⟩)) := by have := HN.out.cell 4 (ptrV r.s1) rfl; rw [hs] at this; exact this
          have HX : Hid (∃ G2 r2 c rc, RI W0 wq B0 root rv f G G2 pa pb n r2 ∧ r2.b = r.b ∧ r2.sd 1 = some c ∧ G2 c = some rc) := hide (by
            obtain ⟨rc, hrc, _⟩ := HI2.out.ok.kid n r HI2.out.at_ 1 (by decide) c0 hs
            exact ⟨_, _, c0, rc, HI2.out, rfl, hs, hrc⟩)
          clear hs
          go_wp2_with ((go_at_call 45; refine CS.out.mono ?_; rintro e wx ⟨rfl, rfl⟩))
          clear n0 n1 n3' nf CS p0 p1 HN HPP2 HI2
          obtain ⟨G2, r2, c, rc, hix, hrb, hs2, hc2⟩ := HX.out
          have HIX := hide hix
          have HRB := hide hrb
          have HS2 := hide hs2
          have HC := hide hc2
          clear hix hrb hs2 hc2 HX
          have HN2 : Hid (HoldV wx n (nodeV r2) ndT) := hide (HIX.out.th.node n r2 HIX.out.at_).1
          have HC2 : Hid (HoldV wx c (nodeV rc) ndT) := hide (HIX.out.th.node c rc HC.out).1
          have HPX : Hid (HoldV wx PP #[.int .i64 (pa : Int), .int .i64 (pb : Int)] prT) := hide (HIX.out.kept.hold HP0.out HG0.out)
          have q0 := HPX.out.cell 0 (.int .i64 (pa : Int)) rfl
          have q1 := HPX.out.cell 1 (.int .i64 (pb : Int)) rfl
          have n3 : wx.cell? ⟨n, 4, none⟩ = some (.pointer (some ⟨c, 0, none⟩)) := by have h := HN2.out.cell 4 (ptrV r2.s1) rfl; have e : r2.s1 = some c := HS2.out; rw [e] at h; exact h
          have nf := HN2.out.frozen
          have HVC : Hid (vP rc.a rc.b) := hide (HIX.out.ok.val _ _ HC.out)
          obtain ⟨m, hm, hm1, hm2, hm3, hm4⟩ := comB_facts HVC.out HV.out
          have HCA := hide (fun W (hW : HoldV W c (nodeV rc) ndT) => around_walk0 c rc.a rc.b pa pb _ _ _ W HVC.out HV.out m hm1 hm hW)
          have HK2 := hide (HIX.out.ok.kid n r2 HIX.out.at_ 1 (by decide) c HS2.out)
          have HM3 := hide hm3
          have HM4 := hide hm4
          clear hm hm3 hm4
          by_cases hmr : m = rc.b
          · have CA : Hid (∀ _ : Nat, Calls Try.prog 79 #[.pointer (some ⟨c, 0, none⟩), .agg #[.int .i64 (pa : Int), .int .i64 (pb : Int)]] wx.drew fun e wz => e = .returned (.pointer (some ⟨c, 0, none⟩)) ∧ Below wx.drew.heap.size wx.drew wz) := hide (fun (_ : Nat) => (HCA.out _ HC2.out.drew).mono (by
              rintro e w2 ⟨h1, ⟨_, h2⟩ | ⟨h2, _⟩⟩
              · exact ⟨h2, h1⟩
              · omega))
            have HDN : Hid (∀ w2, Below wx.drew.heap.size wx.drew w2 → RI W0 (w2.setCell ⟨n, 4, none⟩ (.pointer (some ⟨c, 0, none⟩))) B0 root rv f G G2 pa pb c rc) := hide (fun w2 hb => (HIX.out.next (((Below.refl wx.heap.size wx).drew).trans hb)).down 1 (by decide) HS2.out HC.out (by omega) (by rw [← hmr]; exact HM3.out))
            have HLT : Hid (r2.b < rc.b) := hide (by obtain ⟨rc0, e1, e2, _⟩ := HK2.out; rw [HC.out] at e1; cases e1; exact e2)
            have HLE : Hid (rc.b ≤ pb) := hide (by omega)
            clear HCA HK2 hmr hm1 hm2
            go_region_with ((go_at_call 79; refine (CA.out 0).mono ?_; rintro e w1 ⟨rfl, hb1⟩; have HN3 := HN2.out.drew.next hb1; have g3 := HN3.cell 4 (ptrV r2.s1) rfl; have gf := HN3.frozen))
            all_goals (go_wp2_with fail)
            all_goals (have hfin := HDN.out w1 hb1; refine ⟨⟨c, rfl, hide ⟨_, _, hfin⟩⟩, ?_⟩; rw [HM.out, bitsAt_of (hfin.th.node _ _ hfin.at_).1]; have h1 := HLT.out; have h2 := HLE.out; have h3 := HRB.out; omega)
          · have CA : Hid (∀ _ : Nat, Calls Try.prog 79 #[.pointer (some ⟨c, 0, none⟩), .agg #[.int .i64 (pa : Int), .int .i64 (pb : Int)]] wx.drew fun e wz => ∃ F, e = .returned (.pointer (some ⟨F, 0, none⟩)) ∧ Below wx.drew.heap.size wx.drew wz ∧ wx.heap.size ≤ F ∧ HoldV wz F (nodeV (forkR (mskN rc.a m) m (bitB rc.a m) c)) ndT) := hide (fun (_ : Nat) => (HCA.out _ HC2.out.drew).mono (by
              rintro e w2 ⟨h1, ⟨h2, _⟩ | ⟨_, F, h2, h3, h4⟩⟩
              · omega
              · exact ⟨F, h2, h1, h3, h4⟩))
            have HRL : Hid (r2.b < pb) := hide (by rw [HRB.out]; exact hlt)
            have HBT : Hid (bitB pa r2.b = 1) := hide (by rw [HRB.out]; exact hK)
            have HDD : Hid (m < pb → bitB rc.a m ≠ bitB pa m) := hide (fun h => HM4.out (by omega) h)
            have HDN : Hid (∀ w2 F, Below wx.drew.heap.size wx.drew w2 → wx.heap.size ≤ F → HoldV w2 F (nodeV (forkR (mskN rc.a m) m (bitB rc.a m) c)) ndT → RI W0 (w2.setCell ⟨n, 4, none⟩ (.pointer (some ⟨F, 0, none⟩))) B0 root rv f G (forkG G2 n r2 1 F (mskN rc.a m) m (bitB rc.a m) c) pa pb F (forkR (mskN rc.a m) m (bitB rc.a m) c)) := hide (fun w2 F hb hF hH => HIX.out.fork 1 HV.out HRL.out HBT.out HS2.out HC.out (by omega) hm2 HM3.out HDD.out hF (((Below.refl wx.heap.size wx).drew).trans hb) hH)
            have HLT : Hid (r2.b < m) := hide (HIX.out.fork_lt 1 HV.out HRL.out HBT.out HS2.out HC.out HDD.out)
            have HLE : Hid (m ≤ pb) := hide hm2
            clear HCA HK2 hmr hm1 hm2
            go_region_with ((go_at_call 79; refine (CA.out 0).mono ?_; rintro e w1 ⟨F, rfl, hb1, hF, hH⟩; have HN3 := HN2.out.drew.next hb1; have g3 := HN3.cell 4 (ptrV r2.s1) rfl; have gf := HN3.frozen))
            all_goals (go_wp2_with fail)
            all_goals (have hfin := HDN.out w1 F hb1 hF hH; refine ⟨⟨F, rfl, hide ⟨_, _, hfin⟩⟩, ?_⟩; rw [HM.out, bitsAt_of (hfin.th.node _ _ hfin.at_).1, forkR_b]; have h1 := HLT.out; have h2 := HLE.out; have h3 := HRB.out; omega)
end Go.Proofs.Ytmlpninkilcjaaa
