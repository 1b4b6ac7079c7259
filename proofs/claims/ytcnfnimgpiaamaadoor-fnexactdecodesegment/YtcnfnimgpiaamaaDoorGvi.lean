/-
Contracts of functions of this seat.
-/
import Derived.Test.YtcnfnimgpiaamaaDoorRows
import Derived.WalkKit
import Derived.ProofKit
import Derived.OpenShut
import Derived.Test.YtcnfnimgpiaamaaDoorGti
namespace Go.Proofs.YtcnfnimgpiaamaaDoor
open Go.ChangeShapes Go.WideShapes Go.ChangeAt Go.RowKit
set_option linter.unusedVariables false
set_option maxRecDepth 100000
theorem ArrI.keepg {w w' : World} {a : Option Addr} {L : List Int} {g : Nat} (h : ArrI w a L) (hg : w.grownBy w' (some g)) (hne : ∀ b off, a = some ⟨b, off, none⟩ → b ≠ g) : ArrI w' a L := by
  intro j hj
  obtain ⟨b, off, e, hb, hc⟩ := h j hj
  have hk := hg.block b hb (fun e2 => hne b off e (by injection e2))
  exact ⟨b, off, e, Nat.lt_of_lt_of_le hb hg.size, by rw [World.cell?_of_block (a := ⟨b, off + j, none⟩) hk]; exact hc⟩
set_option maxHeartbeats 2000000 in
theorem takeV_ok (g p n cap b off k rn rc : Nat) (ra : Option Addr) (L zs : List Int) (w : World) (hc : Cur w g (.slice (some ⟨b, off, none⟩) n cap) p .nilIface) (hn : n ≤ 1048576) (hcap : n ≤ cap) (hz : zs.length = n) (ha : Arr w (some ⟨b, off, none⟩) zs) (hb : b ≠ g)
    (hr : ArrI w ra L) (hrn : L.length = rn) (hrm : rn ≤ 16) (hrg : ∀ b off, ra = some ⟨b, off, none⟩ → b ≠ g) (hp : p < n) (hy : tnum ((zs.drop p).take 1) - 2 = (k : Int)) (hk : p + 1 + k ≤ n) (hpc : p + 1 < cap) (hL : L = [] ∨ (k : Int) ∈ L) :
    Calls Tryd.prog 89 #[.pointer (some ⟨g, 0, none⟩), .slice ra rn rc] w fun e w' => e = .returned (.slice (some ⟨b, off + (p + 1), none⟩) k (cap - (p + 1))) ∧ Cur w' g (.slice (some ⟨b, off, none⟩) n cap) (p + 1 + k) .nilIface ∧ w.grownBy w' (some g) := by
  have CT := hide (take_ok g p n cap b off 1 zs w hc hn (by omega) (by omega) hcap hz ha hb (by omega))
  have HR := hide hr
  have HRG := hide hrg
  have CP := hide (fun (W : World) (h : Cur W g (.slice (some ⟨b, off, none⟩) n cap) (p + 1) .nilIface) => by have q := pass_ok g (p + 1) n cap b off k W h (by omega) hk hpc hcap; rw [← hy] at q; exact q)
  have CC := hide (fun (W : World) (h : ArrI W ra L) => containsI_walk ra rn rc L (tnum ((zs.drop p).take 1) - 2) W hrn h (by omega))
  have HL : Hid (L = [] ∨ tnum ((zs.drop p).take 1) - 2 ∈ L) := hide (by rw [hy]; exact hL)
  have y0 : -2 ≤ tnum ((zs.drop p).take 1) := by omega
  have y1 : tnum ((zs.drop p).take 1) ≤ 2000000 := by omega
  have HN := hide hrn
  clear hc ha hz hr hrg hy hL hrn
  generalize tnum ((zs.drop p).take 1) = y at *
  go_enter Tryd.func89, Tryd.ntmps89
  go_wp2_with fail
  refine CT.out.mono ?_
  rintro e w1 ⟨rfl, hc1, hg1⟩
  have HC1 := hide hc1
  have HG1 := hide hg1
  have HR1 := hide (HR.out.keepg hg1 HRG.out)
  clear hc1 hg1 CT
  by_cases hl : rn = 0
  · subst hl
    go_wp2_with fail
    refine (demand_yes g (p + 1) _ 10 w1 HC1.out).mono ?_
    rintro e w2 ⟨rfl, hw2⟩
    subst hw2
    go_wp2_with fail
    refine (CP.out _ HC1.out).mono ?_
    rintro e w5 ⟨rfl, hc5, hg5⟩
    have HC5 := hide hc5
    have HG5 := hide (grown_trans HG1.out hg5)
    clear hc5 hg5
    go_wp2_with fail
    go_ret
    exact ⟨rfl, HC5.out, HG5.out⟩
  · have hl2 : ((rn : Int) == 0) = false := beq_eq_false_iff_ne.2 (by omega)
    have hm : y - 2 ∈ L := by
      rcases HL.out with h | h
      · exact absurd (by rw [← HN.out, h]; rfl) hl
      · exact h
    have HC := hide (CC.out w1 HR1.out)
    rw [decide_eq_true hm] at HC
    clear hm
    go_wp2_with fail
    refine HC.out.mono ?_
    rintro e w2 ⟨rfl, rfl⟩
    go_wp2_with fail
    refine (demand_yes g (p + 1) _ 10 _ HC1.out).mono ?_
    rintro e w3 ⟨rfl, hw3⟩
    subst hw3
    go_wp2_with fail
    refine (CP.out _ HC1.out).mono ?_
    rintro e w5 ⟨rfl, hc5, hg5⟩
    have HC5 := hide hc5
    have HG5 := hide (grown_trans HG1.out hg5)
    clear hc5 hg5
    go_wp2_with fail
    go_ret
    exact ⟨rfl, HC5.out, HG5.out⟩

set_option maxHeartbeats 2000000 in
theorem takeV_size (g p n cap b off rn rc : Nat) (ra : Option Addr) (L zs : List Int) (w : World) (hc : Cur w g (.slice (some ⟨b, off, none⟩) n cap) p .nilIface) (hn : n ≤ 1048576) (hcap : n ≤ cap) (hz : zs.length = n) (ha : Arr w (some ⟨b, off, none⟩) zs) (hb : b ≠ g)
    (hr : ArrI w ra L) (hrn : L.length = rn) (hr0 : 0 < rn) (hrm : rn ≤ 16) (hrg : ∀ b off, ra = some ⟨b, off, none⟩ → b ≠ g) (hp : p < n) (hy0 : 0 ≤ tnum ((zs.drop p).take 1)) (hy1 : tnum ((zs.drop p).take 1) ≤ 255) (hL : tnum ((zs.drop p).take 1) - 2 ∉ L) :
    Calls Tryd.prog 89 #[.pointer (some ⟨g, 0, none⟩), .slice ra rn rc] w fun e w' => e = .returned (.slice none 0 0) ∧ Cur w' g (.slice (some ⟨b, off, none⟩) n cap) (p + 1) (wErr 10) ∧ w.grownBy w' (some g) := by
  have CT := hide (take_ok g p n cap b off 1 zs w hc hn (by omega) (by omega) hcap hz ha hb (by omega))
  have HR := hide hr
  have HRG := hide hrg
  have CC := hide (fun (W : World) (h : ArrI W ra L) => by have q := containsI_walk ra rn rc L (tnum ((zs.drop p).take 1) - 2) W hrn h (by omega); rw [decide_eq_false hL] at q; exact q)
  have CP := hide (fun (W : World) (h : Cur W g (.slice (some ⟨b, off, none⟩) n cap) (p + 1) (wErr 10)) => pass_err g (p + 1) n cap (some ⟨b, off, none⟩) 10 (tnum ((zs.drop p).take 1) - 2) W h (by omega) (by omega) (by omega) (by omega))
  have hl2 : ((rn : Int) == 0) = false := beq_eq_false_iff_ne.2 (by omega)
  clear hc ha hz hr hrg hL hrn
  generalize tnum ((zs.drop p).take 1) = y at *
  go_enter Tryd.func89, Tryd.ntmps89
  go_wp2_with fail
  refine CT.out.mono ?_
  rintro e w1 ⟨rfl, hc1, hg1⟩
  have HC1 := hide hc1
  have HG1 := hide hg1
  have HR1 := hide (HR.out.keepg hg1 HRG.out)
  clear hc1 hg1 CT
  go_wp2_with fail
  refine (CC.out w1 HR1.out).mono ?_
  rintro e w2 ⟨rfl, rfl⟩
  go_wp2_with fail
  refine (demand_no g (p + 1) _ 10 _ HC1.out).mono ?_
  rintro e w3 ⟨rfl, hc3, hg3⟩
  have HC3 := hide hc3
  have HG3 := hide (grown_trans HG1.out hg3)
  clear hc3 hg3
  go_wp2_with fail
  refine (CP.out _ HC3.out).mono ?_
  rintro e w5 ⟨rfl, d, rfl⟩
  go_wp2_with fail
  go_ret
  exact ⟨rfl, HC3.out.drewN d, ⟨HG3.out.os, HG3.out.tape, HG3.out.output, HG3.out.size, HG3.out.block⟩⟩
end Go.Proofs.YtcnfnimgpiaamaaDoor
