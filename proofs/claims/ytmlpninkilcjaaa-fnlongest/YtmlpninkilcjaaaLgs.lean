/-
Contracts of functions of this seat.
-/
import Derived.Test.YtmlpninkilcjaaaRows
import Derived.WalkKit
import Derived.ProofKit
import Derived.OpenShut
import Derived.Test.YtmlpninkilcjaaaRtr
import Derived.Test.YtmlpninkilcjaaaFsp
import Derived.Deep.QuietTactic
import Derived.BigQuiet
namespace Go.Proofs.Ytmlpninkilcjaaa
open Go.ChangeShapes Go.WideShapes Go.ChangeAt Go.RowKit
set_option linter.unusedVariables false
set_option maxRecDepth 100000
theorem HoldV.drewN {w : World} {H T : Nat} {vs : Array Value} (h : HoldV w H vs T) (m : Nat) : HoldV (w.drewN m) H vs T := h
theorem hasB_top {a b x : Nat} (hv : vP a b) (hx : x < 4294967296) : hasB (a : Int) (b : Int) (x : Int) = decide (topB x b = topB a b) := by
  have hp : prefB (a : Int) (b : Int) = true := prefB_iff.2 ⟨by omega, by have := hv.1; omega, adrB_iff.2 ⟨by omega, by have := hv.2.1; omega⟩, by rw [sz_cast]; exact_mod_cast hv.2.2⟩
  have ha : adrB (x : Int) = true := adrB_iff.2 ⟨by omega, by omega⟩
  rw [hasB_yes hp ha, sz_cast]
  unfold topB
  rw [Bool.eq_iff_iff, beq_iff_eq, decide_eq_true_eq]
  constructor
  · intro h; exact_mod_cast h
  · intro h; exact_mod_cast h
/-- Where longest stands: at a node, or at the way's end. -/
def LgAt (G : Gr) (root x : Nat) (t : Value) (o : Option Nat) : Prop :=
  (∃ i n r, t = .pointer (some ⟨n, 0, none⟩) ∧ On G root x i n ∧ G n = some r ∧ Seen G root x i o) ∨ (t = .pointer none ∧ ∃ i, Seen G root x i o ∧ Over G root x i)
/-- The boxes of longest. -/
structure LgB (w w2 : World) (zs : List Int) (o : Option Nat) : Prop where
  below : Below w.heap.size w w2
  res : HoldV w2 w.heap.size zeroR rtT
  fnd : HoldV w2 (w.heap.size + 1) (bestV zs o) rtT
theorem LgB.next {w w1 w2 : World} {zs : List Int} {o : Option Nat} (h : LgB w w1 zs o) (hb : Below w1.heap.size w1 w2) : LgB w w2 zs o := ⟨h.below.trans (hb.mono h.below.size), h.res.next hb, h.fnd.next hb⟩
theorem LgB.cells {w w2 : World} {zs : List Int} {o : Option Nat} (h : LgB w w2 zs o) :
    (w2.cell? ⟨w.heap.size, 0, none⟩ = some (.int .i64 0) ∧ w2.cell? ⟨w.heap.size, 1, none⟩ = some (.int .i64 0) ∧ w2.cell? ⟨w.heap.size, 2, none⟩ = some (.int .i64 0) ∧ w2.cell? ⟨w.heap.size, 3, none⟩ = some (.int .i64 0) ∧ w2.cell? ⟨w.heap.size, 4, none⟩ = some (.int .i64 0) ∧ ∀ q, w2.frozen? ⟨w.heap.size, q, none⟩ = false) ∧
    w2.cell? ⟨w.heap.size + 1, 0, none⟩ = some (.int .i64 (oI o (rA zs))) ∧ w2.cell? ⟨w.heap.size + 1, 1, none⟩ = some (.int .i64 (oI o (rB zs))) ∧ w2.cell? ⟨w.heap.size + 1, 2, none⟩ = some (.int .i64 (oI o (rV zs))) ∧ w2.cell? ⟨w.heap.size + 1, 3, none⟩ = some (.int .i64 (oI o (rL zs))) ∧ w2.cell? ⟨w.heap.size + 1, 4, none⟩ = some (.int .i64 (oI o (rM zs))) ∧ ∀ q, w2.frozen? ⟨w.heap.size + 1, q, none⟩ = false :=
  ⟨⟨h.res.cell 0 _ rfl, h.res.cell 1 _ rfl, h.res.cell 2 _ rfl, h.res.cell 3 _ rfl, h.res.cell 4 _ rfl, h.res.frozen⟩, h.fnd.cell 0 _ rfl, h.fnd.cell 1 _ rfl, h.fnd.cell 2 _ rfl, h.fnd.cell 3 _ rfl, h.fnd.cell 4 _ rfl, h.fnd.frozen⟩
theorem LgB.found {w w1 : World} {zs : List Int} {o : Option Nat} {j : Nat} (h : LgB w w1 zs o) : LgB w (((((w1.setCell ⟨w.heap.size + 1, 0, none⟩ (.int .i64 (rA zs j))).setCell ⟨w.heap.size + 1, 1, none⟩ (.int .i64 (rB zs j))).setCell ⟨w.heap.size + 1, 2, none⟩ (.int .i64 (rV zs j))).setCell ⟨w.heap.size + 1, 3, none⟩ (.int .i64 (rL zs j))).setCell ⟨w.heap.size + 1, 4, none⟩ (.int .i64 (rM zs j))) zs (some j) := by
  have hl : w.heap.size ≤ w.heap.size + 1 := by omega
  have hne : w.heap.size ≠ w.heap.size + 1 := by omega
  refine ⟨?_, ?_, ?_⟩
  · exact ((((h.below.setCell (p := ⟨w.heap.size + 1, 0, none⟩) hl _).setCell (p := ⟨w.heap.size + 1, 1, none⟩) hl _).setCell (p := ⟨w.heap.size + 1, 2, none⟩) hl _).setCell (p := ⟨w.heap.size + 1, 3, none⟩) hl _).setCell (p := ⟨w.heap.size + 1, 4, none⟩) hl _
  · exact ((((h.res.other hne _ _).other hne _ _).other hne _ _).other hne _ _).other hne _ _
  · exact ((((h.fnd.set 0 _).set 1 _).set 2 _).set 3 _).set 4 _
/-- How far longest may still go. -/
def lgM (u : Value) (w2 : World) : Nat := match u with | .pointer none => 0 | _ => 34 - bitsAt u w2
theorem lgM_node {w : World} {n : Nat} {r : Rec} (h : HoldV w n (nodeV r) ndT) : lgM (.pointer (some ⟨n, 0, none⟩)) w = 34 - r.b := by
  show 34 - bitsAt (.pointer (some ⟨n, 0, none⟩)) w = _
  rw [bitsAt_of h]
theorem lg_measure {wr WL : World} {v : Value} {B0 root c b : Nat} {rv : Nat → Array Value} {f : Nat → Nat → Option Nat} {G : Gr} {rc : Rec} (hm : lgM v wr = 34 - b) (hT : TI WL B0 root rv f G) (hc : G c = some rc) (h1 : b < rc.b) (h2 : rc.b ≤ 32) : lgM (.pointer (some ⟨c, 0, none⟩)) WL < lgM v wr := by
  rw [hm, lgM_node (hT.th.node c rc hc).1]
  omega
theorem side_of {G : Gr} {root n x : Nat} {r : Rec} (hG : TrOk G root) (hr : G n = some r) : ∃ k : Nat, k < 2 ∧ sideI (x : Int) (r.b : Int) = (k : Int) ∧ r.sd k = r.sd (bitB x r.b) := by
  by_cases h : r.b < 32
  · exact ⟨bitB x r.b, bitB_lt _ _, side_bit x r.b h, rfl⟩
  · have hno : ∀ k, k < 2 → r.sd k = none := fun k hk => by
      cases e : r.sd k with
      | none => rfl
      | some c =>
        obtain ⟨rc, g1, g2, _⟩ := hG.kid n r hr k hk c e
        have := (hG.val _ _ g1).1
        omega
    have hs : sideI (x : Int) (r.b : Int) = 0 ∨ sideI (x : Int) (r.b : Int) = 1 := by unfold sideI; omega
    rcases hs with hs | hs
    · exact ⟨0, by decide, hs, by rw [hno 0 (by decide), hno _ (bitB_lt _ _)]⟩
    · exact ⟨1, by decide, hs, by rw [hno 1 (by decide), hno _ (bitB_lt _ _)]⟩
set_option maxHeartbeats 8000000 in
theorem longest_walk (zs : List Int) (root : Nat) (G : Gr) (f : Nat → Nat → Option Nat) (B0 x : Nat) (w : World) (hT : TI w B0 root (routeV zs) f G) (hx : x < 4294967296) :
    Calls Try.prog 21 #[.pointer (some ⟨root, 0, none⟩), .int .i64 (x : Int)] w fun e w' => ∃ i o, e = .returned (.tuple #[.agg (bestV zs o), .bool o.isSome]) ∧ Below w.heap.size w w' ∧ Seen G root x i o ∧ Over G root x i := by
  have HT := hide hT
  have HX := hide hx
  obtain ⟨hb2, hR, hF⟩ := two_allocs w (.cells zeroR rtT) (.cells zeroR rtT)
  have HL0 : Hid (LgB w ((w.alloc (.cells zeroR rtT)).alloc (.cells zeroR rtT)) zs none) := hide ⟨hb2, hR, hF⟩
  have HA0 : Hid (LgAt G root x (.pointer (some ⟨root, 0, none⟩)) none) := hide (.inl (by obtain ⟨r, h, _⟩ := hT.ok.rt; exact ⟨0, root, r, rfl, .base, h, Seen.start _ _ _⟩))
  clear hT hb2 hR hF
  go_enter Try.func21, Try.ntmps21
  go_wp2_with fail
  generalize hW : (w.alloc (.cells zeroR 27)).alloc (.cells zeroR 27) = W0 at *
  clear hW
  go_loopw [7, 8] (fun t u w2 => ∃ o, t = .bool (Option.isSome o) ∧ Hid (LgB w w2 zs o) ∧ Hid (LgAt G root x u o)) (fun _ u w2 => lgM u w2)
  case atStart => exact ⟨none, rfl, HL0, HA0⟩
  case round =>
    obtain ⟨o, rfl, HL, HA⟩ := hrel
    rcases HA.out with ⟨i, n, r, rfl, hon, hr, hseen⟩ | ⟨rfl, i, hseen, hover⟩
    · have HO := hide hon
      have HR := hide hr
      have HS := hide hseen
      have HTN := hide (HT.out.next HL.out.below)
      have HN : Hid (HoldV wr n (nodeV r) ndT) := hide (HTN.out.th.node n r hr).1
      have HV : Hid (vP r.a r.b) := hide (HT.out.ok.val n r hr)
      have CH : Hid (∀ W, Calls Try.prog 44 #[.agg #[.int .i64 (r.a : Int), .int .i64 (r.b : Int)], .int .i64 (x : Int)] W fun e w' => e = .returned (.bool (decide (topB x r.b = topB r.a r.b))) ∧ Below W.heap.size W w') := hide (fun W => by have := has_walk (r.a : Int) (r.b : Int) (x : Int) W; rw [hasB_top HV.out HX.out] at this; exact this)
      clear hon hr hseen
      have n0 := HN.out.cell 0 (.int .i64 (r.a : Int)) rfl
      have n1 := HN.out.cell 1 (.int .i64 (r.b : Int)) rfl
      by_cases ht : topB x r.b = topB r.a r.b
      · rw [decide_eq_true ht] at CH
        have HTP := hide ht
        have HM : Hid (lgM (.pointer (some ⟨n, 0, none⟩)) wr = 34 - r.b) := hide (lgM_node HN.out)
        have HMZ : Hid (∀ WX, lgM (.pointer none) WX < lgM (.pointer (some ⟨n, 0, none⟩)) wr) := hide (fun WX => by rw [lgM_node HN.out]; show 0 < _; have := HV.out.1; omega)
        clear ht
        cases hh : r.h with
        | none =>
          have HSN : Hid (Seen G root x (i + 1) o) := hide (by have h := HS.out.step HO.out HR.out HTP.out; rw [hh] at h; exact h)
          have HNH : Hid (ptrV (r.h.map Prod.fst) = .pointer none) := hide (by rw [hh]; rfl)
          clear hh
          go_wp2_with ((go_at_call 44; refine (CH.out _).mono ?_; rintro e WL ⟨rfl, hb1⟩; have HLL := hide (HL.out.next hb1); have HNL := hide (HN.out.next hb1); have n2 := HNL.out.cell 2 (.pointer none) (by rw [← HNH.out]; rfl)))
          clear n0 n1 n2
          obtain ⟨k, hk2, hk, hsd⟩ := side_of (x := x) HT.out.ok HR.out
          have HSD := hide hsd
          clear hsd
          have hk3 : k = 0 ∨ k = 1 := by omega
          clear hk2
          rcases hk3 with rfl | rfl
          · cases hs : r.s0 with
            | none =>
              have s3 : WL.cell? ⟨n, 3, none⟩ = some (.pointer none) := by have h := HNL.out.cell 3 (ptrV r.s0) rfl; rw [hs] at h; exact h
              have CSD := hide (fun m => side_walk n (r.a : Int) (r.b : Int) _ _ _ (x : Int) (WL.drewN m) (by omega) (by have := HX.out; omega) (by omega) (by have := HV.out.1; omega) (HNL.out.drewN m))
              rw [hk] at CSD
              have HOV : Hid (Over G root x (i + 1)) := hide (Over.leaf HO.out HR.out (by rw [← HSD.out]; exact hs))
              clear hs hk
              go_quiet ((go_at_call 45; exact Calls.quiet_of_same (CSD.out _)))
              have HLL2 := hide (HLL.out.next (below_drewN (Below.refl _ _) nq))
              go_wp2_with fail
              exact ⟨⟨_, rfl, HLL2, hide (.inr ⟨rfl, i + 1, HSN.out, HOV.out⟩)⟩, HMZ.out _⟩
            | some c =>
              have s3 : WL.cell? ⟨n, 3, none⟩ = some (.pointer (some ⟨c, 0, none⟩)) := by have h := HNL.out.cell 3 (ptrV r.s0) rfl; rw [hs] at h; exact h
              have CSD := hide (fun m => side_walk n (r.a : Int) (r.b : Int) _ _ _ (x : Int) (WL.drewN m) (by omega) (by have := HX.out; omega) (by omega) (by have := HV.out.1; omega) (HNL.out.drewN m))
              rw [hk] at CSD
              have hs' : r.sd (bitB x r.b) = some c := by rw [← HSD.out]; exact hs
              obtain ⟨rc, hrc, hlt, _⟩ := HT.out.ok.kid n r HR.out _ (bitB_lt _ _) c hs'
              have HON : Hid (On G root x (i + 1) c) := hide (.step HO.out HR.out HTP.out hs')
              have HRC := hide hrc
              have HLTB := hide hlt
              clear hs' hrc hlt
              clear hs hk
              go_quiet ((go_at_call 45; exact Calls.quiet_of_same (CSD.out _)))
              have HLL2 := hide (HLL.out.next (below_drewN (Below.refl _ _) nq))
              go_wp2_with fail
              exact ⟨⟨_, rfl, HLL2, hide (.inl ⟨i + 1, c, rc, rfl, HON.out, HRC.out, HSN.out⟩)⟩, lg_measure HM.out (HT.out.next HLL2.out.below) HRC.out HLTB.out (HT.out.ok.val _ _ HRC.out).1⟩
          · cases hs : r.s1 with
            | none =>
              have s3 : WL.cell? ⟨n, 4, none⟩ = some (.pointer none) := by have h := HNL.out.cell 4 (ptrV r.s1) rfl; rw [hs] at h; exact h
              have CSD := hide (fun m => side_walk n (r.a : Int) (r.b : Int) _ _ _ (x : Int) (WL.drewN m) (by omega) (by have := HX.out; omega) (by omega) (by have := HV.out.1; omega) (HNL.out.drewN m))
              rw [hk] at CSD
              have HOV : Hid (Over G root x (i + 1)) := hide (Over.leaf HO.out HR.out (by rw [← HSD.out]; exact hs))
              clear hs hk
              go_quiet ((go_at_call 45; exact Calls.quiet_of_same (CSD.out _)))
              have HLL2 := hide (HLL.out.next (below_drewN (Below.refl _ _) nq))
              go_wp2_with fail
              exact ⟨⟨_, rfl, HLL2, hide (.inr ⟨rfl, i + 1, HSN.out, HOV.out⟩)⟩, HMZ.out _⟩
            | some c =>
              have s3 : WL.cell? ⟨n, 4, none⟩ = some (.pointer (some ⟨c, 0, none⟩)) := by have h := HNL.out.cell 4 (ptrV r.s1) rfl; rw [hs] at h; exact h
              have CSD := hide (fun m => side_walk n (r.a : Int) (r.b : Int) _ _ _ (x : Int) (WL.drewN m) (by omega) (by have := HX.out; omega) (by omega) (by have := HV.out.1; omega) (HNL.out.drewN m))
              rw [hk] at CSD
              have hs' : r.sd (bitB x r.b) = some c := by rw [← HSD.out]; exact hs
              obtain ⟨rc, hrc, hlt, _⟩ := HT.out.ok.kid n r HR.out _ (bitB_lt _ _) c hs'
              have HON : Hid (On G root x (i + 1) c) := hide (.step HO.out HR.out HTP.out hs')
              have HRC := hide hrc
              have HLTB := hide hlt
              clear hs' hrc hlt
              clear hs hk
              go_quiet ((go_at_call 45; exact Calls.quiet_of_same (CSD.out _)))
              have HLL2 := hide (HLL.out.next (below_drewN (Below.refl _ _) nq))
              go_wp2_with fail
              exact ⟨⟨_, rfl, HLL2, hide (.inl ⟨i + 1, c, rc, rfl, HON.out, HRC.out, HSN.out⟩)⟩, lg_measure HM.out (HT.out.next HLL2.out.below) HRC.out HLTB.out (HT.out.ok.val _ _ HRC.out).1⟩
        | some p =>
          obtain ⟨hb, j⟩ := p
          have HSN : Hid (Seen G root x (i + 1) (some j)) := hide (by have h := HS.out.step HO.out HR.out HTP.out; rw [hh] at h; exact h)
          have HNH : Hid (ptrV (r.h.map Prod.fst) = .pointer (some ⟨hb, 0, none⟩)) := hide (by rw [hh]; rfl)
          have HHB : Hid (HoldV wr hb (routeV zs j) rtT) := hide (HTN.out.th.hang n r hb j HR.out hh).1
          have HHL : Hid (hb < w.heap.size) := hide (HT.out.th.hang n r hb j HR.out hh).1.lt
          have HNL0 : Hid (n < w.heap.size) := hide (HT.out.th.node n r HR.out).1.lt
          clear hh
          go_wp2_with ((go_at_call 44; refine (CH.out _).mono ?_; rintro e w1 ⟨rfl, hb1⟩; have HL1 := HL.out.next hb1; obtain ⟨⟨d0, d1, d2, d3, d4, df⟩, f0, f1, f2, f3, f4, ff⟩ := HL1.cells; have HN1 := HN.out.next hb1; have n2 := HN1.cell 2 (.pointer (some ⟨hb, 0, none⟩)) (by rw [← HNH.out]; rfl); have HH1 := HHB.out.next hb1; have g0 := HH1.cell 0 _ rfl; have g1 := HH1.cell 1 _ rfl; have g2 := HH1.cell 2 _ rfl; have g3 := HH1.cell 3 _ rfl; have g4 := HH1.cell 4 _ rfl))
          have HLL : Hid (LgB w (((((w1.setCell ⟨w.heap.size + 1, 0, none⟩ (.int .i64 (rA zs j))).setCell ⟨w.heap.size + 1, 1, none⟩ (.int .i64 (rB zs j))).setCell ⟨w.heap.size + 1, 2, none⟩ (.int .i64 (rV zs j))).setCell ⟨w.heap.size + 1, 3, none⟩ (.int .i64 (rL zs j))).setCell ⟨w.heap.size + 1, 4, none⟩ (.int .i64 (rM zs j))) zs (some j)) := hide HL1.found
          have HNL : Hid (HoldV (((((w1.setCell ⟨w.heap.size + 1, 0, none⟩ (.int .i64 (rA zs j))).setCell ⟨w.heap.size + 1, 1, none⟩ (.int .i64 (rB zs j))).setCell ⟨w.heap.size + 1, 2, none⟩ (.int .i64 (rV zs j))).setCell ⟨w.heap.size + 1, 3, none⟩ (.int .i64 (rL zs j))).setCell ⟨w.heap.size + 1, 4, none⟩ (.int .i64 (rM zs j))) n (nodeV r) ndT) := hide (by have := HNL0.out; exact ((((HN1.other (by omega) _ _).other (by omega) _ _).other (by omega) _ _).other (by omega) _ _).other (by omega) _ _)
          clear n0 n1 n2 d0 d1 d2 d3 d4 df f0 f1 f2 f3 f4 ff g0 g1 g2 g3 g4 HL1 HN1 HH1
          generalize (((((w1.setCell ⟨w.heap.size + 1, 0, none⟩ (.int .i64 (rA zs j))).setCell ⟨w.heap.size + 1, 1, none⟩ (.int .i64 (rB zs j))).setCell ⟨w.heap.size + 1, 2, none⟩ (.int .i64 (rV zs j))).setCell ⟨w.heap.size + 1, 3, none⟩ (.int .i64 (rL zs j))).setCell ⟨w.heap.size + 1, 4, none⟩ (.int .i64 (rM zs j))) = WL at *
          obtain ⟨k, hk2, hk, hsd⟩ := side_of (x := x) HT.out.ok HR.out
          have HSD := hide hsd
          clear hsd
          have hk3 : k = 0 ∨ k = 1 := by omega
          clear hk2
          rcases hk3 with rfl | rfl
          · cases hs : r.s0 with
            | none =>
              have s3 : WL.cell? ⟨n, 3, none⟩ = some (.pointer none) := by have h := HNL.out.cell 3 (ptrV r.s0) rfl; rw [hs] at h; exact h
              have CSD := hide (fun m => side_walk n (r.a : Int) (r.b : Int) _ _ _ (x : Int) (WL.drewN m) (by omega) (by have := HX.out; omega) (by omega) (by have := HV.out.1; omega) (HNL.out.drewN m))
              rw [hk] at CSD
              have HOV : Hid (Over G root x (i + 1)) := hide (Over.leaf HO.out HR.out (by rw [← HSD.out]; exact hs))
              clear hs hk
              go_quiet ((go_at_call 45; exact Calls.quiet_of_same (CSD.out _)))
              have HLL2 := hide (HLL.out.next (below_drewN (Below.refl _ _) nq))
              go_wp2_with fail
              exact ⟨⟨_, rfl, HLL2, hide (.inr ⟨rfl, i + 1, HSN.out, HOV.out⟩)⟩, HMZ.out _⟩
            | some c =>
              have s3 : WL.cell? ⟨n, 3, none⟩ = some (.pointer (some ⟨c, 0, none⟩)) := by have h := HNL.out.cell 3 (ptrV r.s0) rfl; rw [hs] at h; exact h
              have CSD := hide (fun m => side_walk n (r.a : Int) (r.b : Int) _ _ _ (x : Int) (WL.drewN m) (by omega) (by have := HX.out; omega) (by omega) (by have := HV.out.1; omega) (HNL.out.drewN m))
              rw [hk] at CSD
              have hs' : r.sd (bitB x r.b) = some c := by rw [← HSD.out]; exact hs
              obtain ⟨rc, hrc, hlt, _⟩ := HT.out.ok.kid n r HR.out _ (bitB_lt _ _) c hs'
              have HON : Hid (On G root x (i + 1) c) := hide (.step HO.out HR.out HTP.out hs')
              have HRC := hide hrc
              have HLTB := hide hlt
              clear hs' hrc hlt
              clear hs hk
              go_quiet ((go_at_call 45; exact Calls.quiet_of_same (CSD.out _)))
              have HLL2 := hide (HLL.out.next (below_drewN (Below.refl _ _) nq))
              go_wp2_with fail
              exact ⟨⟨_, rfl, HLL2, hide (.inl ⟨i + 1, c, rc, rfl, HON.out, HRC.out, HSN.out⟩)⟩, lg_measure HM.out (HT.out.next HLL2.out.below) HRC.out HLTB.out (HT.out.ok.val _ _ HRC.out).1⟩
          · cases hs : r.s1 with
            | none =>
              have s3 : WL.cell? ⟨n, 4, none⟩ = some (.pointer none) := by have h := HNL.out.cell 4 (ptrV r.s1) rfl; rw [hs] at h; exact h
              have CSD := hide (fun m => side_walk n (r.a : Int) (r.b : Int) _ _ _ (x : Int) (WL.drewN m) (by omega) (by have := HX.out; omega) (by omega) (by have := HV.out.1; omega) (HNL.out.drewN m))
              rw [hk] at CSD
              have HOV : Hid (Over G root x (i + 1)) := hide (Over.leaf HO.out HR.out (by rw [← HSD.out]; exact hs))
              clear hs hk
              go_quiet ((go_at_call 45; exact Calls.quiet_of_same (CSD.out _)))
              have HLL2 := hide (HLL.out.next (below_drewN (Below.refl _ _) nq))
              go_wp2_with fail
              exact ⟨⟨_, rfl, HLL2, hide (.inr ⟨rfl, i + 1, HSN.out, HOV.out⟩)⟩, HMZ.out _⟩
            | some c =>
              have s3 : WL.cell? ⟨n, 4, none⟩ = some (.pointer (some ⟨c, 0, none⟩)) := by have h := HNL.out.cell 4 (ptrV r.s1) rfl; rw [hs] at h; exact h
              have CSD := hide (fun m => side_walk n (r.a : Int) (r.b : Int) _ _ _ (x : Int) (WL.drewN m) (by omega) (by have := HX.out; omega) (by omega) (by have := HV.out.1; omega) (HNL.out.drewN m))
              rw [hk] at CSD
              have hs' : r.sd (bitB x r.b) = some c := by rw [← HSD.out]; exact hs
              obtain ⟨rc, hrc, hlt, _⟩ := HT.out.ok.kid n r HR.out _ (bitB_lt _ _) c hs'
              have HON : Hid (On G root x (i + 1) c) := hide (.step HO.out HR.out HTP.out hs')
              have HRC := hide hrc
              have HLTB := hide hlt
              clear hs' hrc hlt
              clear hs hk
              go_quiet ((go_at_call 45; exact Calls.quiet_of_same (CSD.out _)))
              have HLL2 := hide (HLL.out.next (below_drewN (Below.refl _ _) nq))
              go_wp2_with fail
              exact ⟨⟨_, rfl, HLL2, hide (.inl ⟨i + 1, c, rc, rfl, HON.out, HRC.out, HSN.out⟩)⟩, lg_measure HM.out (HT.out.next HLL2.out.below) HRC.out HLTB.out (HT.out.ok.val _ _ HRC.out).1⟩
      · rw [decide_eq_false ht] at CH
        have HOV : Hid (Over G root x i) := hide (Over.out HO.out HR.out ht)
        clear ht
        go_wp2_with ((go_at_call 44; refine (CH.out _).mono ?_; rintro e w1 ⟨rfl, hb1⟩; have HL1 := HL.out.next hb1; obtain ⟨⟨d0, d1, d2, d3, d4, df⟩, f0, f1, f2, f3, f4, ff⟩ := HL1.cells))
        exact bodyPost_ret (v := .tuple #[.agg (bestV zs o), .bool o.isSome]) (by simp [results, Try.results21, go_sem, d0, d1, d2, d3, d4]) rfl ⟨i, o, rfl, ((((HL1.below.setCell (p := ⟨w.heap.size, 0, none⟩) (Nat.le_refl _) _).setCell (p := ⟨w.heap.size, 1, none⟩) (Nat.le_refl _) _).setCell (p := ⟨w.heap.size, 2, none⟩) (Nat.le_refl _) _).setCell (p := ⟨w.heap.size, 3, none⟩) (Nat.le_refl _) _).setCell (p := ⟨w.heap.size, 4, none⟩) (Nat.le_refl _) _, HS.out, HOV.out⟩
    · obtain ⟨⟨d0, d1, d2, d3, d4, df⟩, f0, f1, f2, f3, f4, ff⟩ := HL.out.cells
      have HS := hide hseen
      have HOV := hide hover
      clear hseen hover
      go_wp2_with fail
      exact bodyPost_ret (v := .tuple #[.agg (bestV zs o), .bool o.isSome]) (by simp [results, Try.results21, go_sem, d0, d1, d2, d3, d4]) rfl ⟨i, o, rfl, ((((HL.out.below.setCell (p := ⟨w.heap.size, 0, none⟩) (Nat.le_refl _) _).setCell (p := ⟨w.heap.size, 1, none⟩) (Nat.le_refl _) _).setCell (p := ⟨w.heap.size, 2, none⟩) (Nat.le_refl _) _).setCell (p := ⟨w.heap.size, 3, none⟩) (Nat.le_refl _) _).setCell (p := ⟨w.heap.size, 4, none⟩) (Nat.le_refl _) _, HS.out, HOV.out⟩
end Go.Proofs.Ytmlpninkilcjaaa
