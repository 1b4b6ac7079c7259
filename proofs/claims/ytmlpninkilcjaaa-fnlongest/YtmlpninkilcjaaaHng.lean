/-
Contracts of functions of this seat.
-/
import Derived.Test.YtmlpninkilcjaaaRows
import Derived.WalkKit
import Derived.ProofKit
import Derived.OpenShut
import Derived.Test.YtmlpninkilcjaaaTr3
import Derived.Deep.QuietTactic
import Derived.BigQuiet
namespace Go.Proofs.Ytmlpninkilcjaaa
open Go.ChangeShapes Go.WideShapes Go.ChangeAt Go.RowKit
set_option linter.unusedVariables false
set_option maxRecDepth 100000
theorem nearer_walk (z0 z1 z2 z3 z4 y0 y1 y2 y3 y4 : Int) (w : World) : Calls Try.prog 48 #[.agg #[.int .i64 z0, .int .i64 z1, .int .i64 z2, .int .i64 z3, .int .i64 z4], .agg #[.int .i64 y0, .int .i64 y1, .int .i64 y2, .int .i64 y3, .int .i64 y4]] w fun e w' => e = .returned (.bool (decide (z4 < y4))) ∧ Below w.heap.size w w' := by
  have HB := hide (two_allocs w (.cells #[.int .i64 z0, .int .i64 z1, .int .i64 z2, .int .i64 z3, .int .i64 z4] 27) (.cells #[.int .i64 y0, .int .i64 y1, .int .i64 y2, .int .i64 y3, .int .i64 y4] 27))
  go_enter Try.func48, Try.ntmps48
  go_wp2_with fail
  go_ret
  exact ⟨rfl, HB.out.1⟩
abbrev routeV (zs : List Int) (j : Nat) : Array Value := #[.int .i64 (rA zs j), .int .i64 (rB zs j), .int .i64 (rV zs j), .int .i64 (rL zs j), .int .i64 (rM zs j)]
/-- A tree of what has hung so far. -/
structure TI (w : World) (B0 root : Nat) (rv : Nat → Array Value) (f : Nat → Nat → Option Nat) (G : Gr) : Prop where
  ok : TrOk G root
  hung : Hung G root f
  th : TH w B0 rv G
theorem RI.ti {W0 W : World} {B0 root : Nat} {rv : Nat → Array Value} {f : Nat → Nat → Option Nat} {G G1 : Gr} {pa pb n : Nat} {r : Rec} (h : RI W0 W B0 root rv f G G1 pa pb n r) : TI W B0 root rv f G1 := ⟨h.ok, h.hung, h.th⟩
theorem TI.next {w w' : World} {B0 root : Nat} {rv : Nat → Array Value} {f : Nat → Nat → Option Nat} {G : Gr} (h : TI w B0 root rv f G) (hb : Below w.heap.size w w') : TI w' B0 root rv f G := ⟨h.ok, h.hung, h.th.next hb⟩
set_option maxHeartbeats 8000000 in
theorem hang_walk (zs : List Int) (root : Nat) (G : Gr) (f : Nat → Nat → Option Nat) (pa pb B0 j : Nat) (w : World) (hT : TI w B0 root (routeV zs) f G) (hp : vP pa pb) (hB0 : B0 ≤ w.heap.size) :
    Calls Try.prog 47 #[.pointer (some ⟨root, 0, none⟩), .agg #[.int .i64 (pa : Int), .int .i64 (pb : Int)], .agg (routeV zs j), .func (.func 48) #[] #[]] w fun e w' =>
      e = .returned (.tuple #[]) ∧ Below B0 w w' ∧ ∃ G1, TI w' B0 root (routeV zs) (hungF (rM zs) f pa pb j) G1 := by
  obtain ⟨hb2, hP, hV⟩ := two_allocs w (.cells #[.int .i64 (pa : Int), .int .i64 (pb : Int)] prT) (.cells (routeV zs j) rtT)
  have CR := hide (reach_walk root G f (routeV zs) pa pb B0 ((w.alloc (.cells #[.int .i64 (pa : Int), .int .i64 (pb : Int)] prT)).alloc (.cells (routeV zs j) rtT)) hT.ok hT.hung (hT.th.next hb2) hp (Nat.le_trans hB0 hb2.size))
  have HGV : Hid (G (w.heap.size + 1) = none) := hide (hT.th.fresh _ (by omega))
  have HV0 : Hid (HoldV ((w.alloc (.cells #[.int .i64 (pa : Int), .int .i64 (pb : Int)] prT)).alloc (.cells (routeV zs j) rtT)) (w.heap.size + 1) (routeV zs j) rtT) := hide hV
  have HBW := hide hb2
  clear hb2 hP hV hT
  go_enter Try.func47, Try.ntmps47
  go_wp2_with ((go_at_call 68; refine CR.out.mono ?_; rintro e w1 ⟨n, G1, r, rfl, hI, ha, hb⟩))
  have HI := hide hI
  have HNW : Hid (HoldV w1 n (nodeV r) ndT) := hide (HI.out.th.node n r HI.out.at_).1
  have HV1 : Hid (HoldV w1 (w.heap.size + 1) (routeV zs j) rtT) := hide (HI.out.kept.hold HV0.out HGV.out)
  have HG1 : Hid (G1 (w.heap.size + 1) = none) := hide (HI.out.kept _ HV0.out.lt HGV.out).2
  have HBB : Hid (Below B0 w w1) := hide ((HBW.out.mono hB0).trans HI.out.below)
  have HAB : Hid (r.a = pa ∧ r.b = pb) := hide ⟨ha, hb⟩
  clear hI ha hb CR HV0 HGV HBW
  have v0 := HV1.out.cell 0 _ rfl
  have v1 := HV1.out.cell 1 _ rfl
  have v2 := HV1.out.cell 2 _ rfl
  have v3 := HV1.out.cell 3 _ rfl
  have v4 := HV1.out.cell 4 _ rfl
  generalize hVV : w.heap.size + 1 = VV at *
  have hVB : B0 ≤ VV := by omega
  clear hVV
  have HFin : Hid (∀ W, Below w1.heap.size w1 W → TI (W.setCell ⟨n, 2, none⟩ (.pointer (some ⟨VV, 0, none⟩))) B0 root (routeV zs) (upF f pa pb j) (upG G1 n (r.hang VV j)) ∧ Below B0 w (W.setCell ⟨n, 2, none⟩ (.pointer (some ⟨VV, 0, none⟩)))) := hide (fun W hW => by
    have h1 := HI.out.ok
    have h2 := hang_hung (hb := VV) (j := j) h1 HI.out.hung HI.out.at_
    rw [HAB.out.1, HAB.out.2] at h2
    exact ⟨⟨hang_ok h1 HI.out.at_, h2, (HI.out.th.next hW).hung HI.out.at_ VV j (HV1.out.next hW) HG1.out hVB⟩, (HBB.out.trans (hW.mono (Nat.le_trans HI.out.base HI.out.below.size))).setCell (p := ⟨n, 2, none⟩) (HI.out.th.node n r HI.out.at_).2 _⟩)
  have HKeep : Hid (∀ W, Below w1.heap.size w1 W → TI W B0 root (routeV zs) f G1 ∧ Below B0 w W) := hide (fun W hW => ⟨HI.out.ti.next hW, HBB.out.trans (hW.mono (Nat.le_trans HI.out.base HI.out.below.size))⟩)
  cases hh : r.h with
  | none =>
    have n2 : w1.cell? ⟨n, 2, none⟩ = some (.pointer none) := by have h := HNW.out.cell 2 (ptrV (r.h.map Prod.fst)) rfl; rw [hh] at h; exact h
    have nf := HNW.out.frozen
    have HF : Hid (hungF (rM zs) f pa pb j = upF f pa pb j) := hide (by
      have h := HI.out.hung.none_at HI.out.ok HI.out.at_ hh
      rw [HAB.out.1, HAB.out.2] at h
      unfold hungF
      rw [h])
    clear hh
    go_quiet (fail)
    go_wp2_with fail
    go_end0
    rw [HF.out]
    have h := HFin.out (w1.drewN nq) (below_drewN (Below.refl _ _) nq)
    exact ⟨rfl, h.2, _, h.1⟩
  | some p =>
    obtain ⟨hb, i⟩ := p
    have n2 : w1.cell? ⟨n, 2, none⟩ = some (.pointer (some ⟨hb, 0, none⟩)) := by have h := HNW.out.cell 2 (ptrV (r.h.map Prod.fst)) rfl; rw [hh] at h; exact h
    have HHB : Hid (HoldV w1 hb (routeV zs i) rtT) := hide (HI.out.th.hang n r hb i HI.out.at_ hh).1
    have HFI : Hid (f pa pb = some i) := hide (by have h := HI.out.hung.is n r hb i HI.out.at_ hh; rw [HAB.out.1, HAB.out.2] at h; exact h)
    clear hh
    have kn := cell_regrown n2
    have h0 := cell_regrown (HHB.out.cell 0 _ rfl)
    have h1 := cell_regrown (HHB.out.cell 1 _ rfl)
    have h2 := cell_regrown (HHB.out.cell 2 _ rfl)
    have h3 := cell_regrown (HHB.out.cell 3 _ rfl)
    have h4 := cell_regrown (HHB.out.cell 4 _ rfl)
    have u0 := cell_regrown v0
    have u1 := cell_regrown v1
    have u2 := cell_regrown v2
    have u3 := cell_regrown v3
    have u4 := cell_regrown v4
    clear v0 v1 v2 v3 v4 n2
    have cN : ∀ d os, Calls Try.prog 48 #[.agg (routeV zs j), .agg (routeV zs i)] (Go.Sort.grow (redrawn w1 d) os) fun e w'' => e = .returned (.bool (decide (rM zs j < rM zs i))) ∧ ∃ p : Regrown, w'' = Go.Sort.grow (redrawn w1 p.d) p.os := fun d os => Calls.regrown_of (nearer_walk _ _ _ _ _ _ _ _ _ _ _)
    refine wp_region_quiet_below (by kernel_rfl) (by kernel_rfl) ?_
    repeat (first | go_big_quiet_step ((go_at_call 48; exact cN _ _)) | quiet_step ((go_at_call 48; exact cN _ _)))
    refine wpQuiet_nil ?_
    intro _ hw'
    obtain ⟨⟨dq, osq⟩, hw''⟩ := hw'
    subst hw''
    have HBQ := hide (below_regrown w1 dq osq)
    have HNQ := hide (HNW.out.next HBQ.out)
    have kz := HNQ.out.cell 2 (ptrV (r.h.map Prod.fst)) rfl
    have kf := HNQ.out.frozen
    clear kn h0 h1 h2 h3 h4 u0 u1 u2 u3 u4 cN
    generalize Go.Sort.grow (redrawn w1 dq) osq = W at *
    by_cases hlt : rM zs j < rM zs i
    · have HF : Hid (hungF (rM zs) f pa pb j = upF f pa pb j) := hide (by unfold hungF; rw [HFI.out]; exact if_pos hlt)
      go_wp2_with fail
      go_end0
      rw [HF.out]
      have h := HFin.out W HBQ.out
      exact ⟨rfl, h.2, _, h.1⟩
    · have HF : Hid (hungF (rM zs) f pa pb j = f) := hide (by unfold hungF; rw [HFI.out]; exact if_neg hlt)
      have hge : rM zs i ≤ rM zs j := Int.not_lt.1 hlt
      clear hlt
      go_wp2_with fail
      go_end0
      rw [HF.out]
      have h := HKeep.out W HBQ.out
      exact ⟨rfl, h.2, _, h.1⟩
end Go.Proofs.Ytmlpninkilcjaaa
