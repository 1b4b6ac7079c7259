/-
Contracts of functions of this seat.
-/
import Derived.Test.YtcnfnimgpiaamaaDoorRows
import Derived.WalkKit
import Derived.ProofKit
import Derived.OpenShut
import Derived.Test.YtcnfnimgpiaamaaDoorGvi
import Derived.Test.YtcnfnimgpiaamaaDoorSd4
namespace Go.Proofs.YtcnfnimgpiaamaaDoor
open Go.ChangeShapes Go.WideShapes Go.ChangeAt Go.RowKit
set_option linter.unusedVariables false
set_option maxRecDepth 100000
set_option maxHeartbeats 1000000 in
theorem pass_no (g p n cap k : Nat) (a : Option Addr) (w : World) (hc : Cur w g (.slice a n cap) p .nilIface) (hn : n ≤ 140737488355328) (hp : p ≤ n) (hk : n < p + k) (hk1 : k ≤ 1048576) :
    Calls Tryd.prog 45 #[.pointer (some ⟨g, 0, none⟩), .int .i64 (k : Int)] w fun e w' => e = .returned (.slice none 0 0) ∧ Cur w' g (.slice a n cap) p (wErr 2) ∧ w.grownBy w' (some g) := by
  have CL := hide (left_walk g p n cap a .nilIface w hc hn (by omega))
  have HC := hide hc
  have hk0 : (0 : Int) ≤ (k : Int) := by omega
  have hd : ¬ (k : Int) ≤ (n : Int) - (p : Int) := by omega
  have HD := hide hd
  clear hc hd
  go_enter Tryd.func45, Tryd.ntmps45
  go_wp2_with fail
  refine CL.out.mono ?_
  rintro e w1 ⟨rfl, m, rfl⟩
  go_wp2_with fail
  rw [decide_eq_false (Int.not_le.2 HD.out)]
  refine (demand_no g p _ _ _ (HC.out.drewN m)).mono ?_
  rintro e w2 ⟨rfl, hc2, hg2⟩
  have HC2 := hide hc2
  have HG2 : Hid (w.grownBy w2 (some g)) := hide ⟨hg2.os, hg2.tape, hg2.output, hg2.size, hg2.block⟩
  obtain ⟨d0, d1, d2, df⟩ := HC2.out.cells
  clear hc2 hg2 HC CL HD
  go_wp2_with fail
  go_ret
  exact ⟨rfl, HC2.out, HG2.out⟩
set_option maxHeartbeats 1000000 in
theorem take_no (g p n cap k : Nat) (a : Option Addr) (w : World) (hc : Cur w g (.slice a n cap) p .nilIface) (hn : n ≤ 140737488355328) (hp : p ≤ n) (hk : n < p + k) (hk1 : k ≤ 1048576) :
    Calls Tryd.prog 43 #[.pointer (some ⟨g, 0, none⟩), .int .i64 (k : Int)] w fun e w' => e = .returned (.int .i64 0) ∧ Cur w' g (.slice a n cap) p (wErr 2) ∧ w.grownBy w' (some g) := by
  have CP := hide (pass_no g p n cap k a w hc hn hp hk hk1)
  clear hc
  go_enter Tryd.func43, Tryd.ntmps43
  go_wp2_with fail
  refine CP.out.mono ?_
  rintro e w1 ⟨rfl, hc1, hg1⟩
  have HC := hide hc1
  have HG := hide hg1
  clear hc1 hg1
  go_wp2_with fail
  refine (takeNumber_none _).mono ?_
  rintro e w2 ⟨rfl, rfl⟩
  go_wp2_with fail
  go_ret
  exact ⟨rfl, HC.out, HG.out⟩

set_option maxHeartbeats 1000000 in
theorem pass_neg (g p : Nat) (bv : Value) (k : Int) (w : World) (hc : Cur w g bv p .nilIface) (hk : k < 0) (hk1 : -1000000 ≤ k) :
    Calls Tryd.prog 45 #[.pointer (some ⟨g, 0, none⟩), .int .i64 k] w fun e w' => e = .returned (.slice none 0 0) ∧ Cur w' g bv p (wErr 2) ∧ w.grownBy w' (some g) := by
  have HC := hide hc
  have hd : decide (0 ≤ k) = false := decide_eq_false (by omega)
  clear hc
  go_enter Tryd.func45, Tryd.ntmps45
  go_wp2_with fail
  refine (demand_no g p _ _ _ HC.out).mono ?_
  rintro e w2 ⟨rfl, hc2, hg2⟩
  have HC2 := hide hc2
  have HG2 := hide hg2
  obtain ⟨d0, d1, d2, df⟩ := HC2.out.cells
  clear hc2 hg2 HC
  go_wp2_with fail
  go_ret
  exact ⟨rfl, HC2.out, HG2.out⟩
set_option maxHeartbeats 2000000 in
/-- takeValue of the program where no byte is left for the length. -/
theorem takeV_over (g n cap rn rc : Nat) (a ra : Option Addr) (L : List Int) (w : World) (hc : Cur w g (.slice a n cap) n .nilIface) (hn : n ≤ 1048576) (hr : ArrI w ra L) (hrn : L.length = rn) (hrm : rn ≤ 16) (hrg : ∀ b off, ra = some ⟨b, off, none⟩ → b ≠ g) :
    Calls Tryd.prog 89 #[.pointer (some ⟨g, 0, none⟩), .slice ra rn rc] w fun e w' => e = .returned (.slice none 0 0) ∧ Cur w' g (.slice a n cap) n (wErr 2) ∧ w.grownBy w' (some g) := by
  have CT := hide (take_no g n n cap 1 a w hc (by omega) (by omega) (by omega) (by omega))
  have HR := hide hr
  have HRG := hide hrg
  have HN := hide hrn
  have CC := hide (fun (W : World) (h : ArrI W ra L) => containsI_walk ra rn rc L (-2) W hrn h (by omega))
  have CP := hide (fun (W : World) (h : Cur W g (.slice a n cap) n (wErr 2)) => pass_err g n n cap a 2 (-2) W h (by omega) (by omega) (by omega) (by omega))
  clear hc hr hrg hrn
  go_enter Tryd.func89, Tryd.ntmps89
  go_wp2_with fail
  refine CT.out.mono ?_
  rintro e w1 ⟨rfl, hc1, hg1⟩
  have HC1 := hide hc1
  have HG1 := hide hg1
  have HR1 := hide (HR.out.keepg hg1 HRG.out)
  clear hc1 hg1 CT
  by_cases hl : rn = 0
  · subst hl
    go_wp2_with fail
    refine (demand_err g n _ 2 _ _ _ HC1.out).mono ?_
    rintro e w2 ⟨rfl, hw2⟩
    subst hw2
    go_wp2_with fail
    refine (CP.out _ HC1.out).mono ?_
    rintro e w5 ⟨rfl, d, rfl⟩
    go_wp2_with fail
    go_ret
    exact ⟨rfl, HC1.out.drewN d, ⟨HG1.out.os, HG1.out.tape, HG1.out.output, HG1.out.size, HG1.out.block⟩⟩
  · have hl2 : ((rn : Int) == 0) = false := beq_eq_false_iff_ne.2 (by omega)
    have HC := hide (CC.out w1 HR1.out)
    generalize decide ((-2 : Int) ∈ L) = q at HC
    go_wp2_with fail
    refine HC.out.mono ?_
    rintro e w2 ⟨rfl, rfl⟩
    go_wp2_with fail
    refine (demand_err g n _ 2 _ _ _ HC1.out).mono ?_
    rintro e w3 ⟨rfl, hw3⟩
    subst hw3
    go_wp2_with fail
    refine (CP.out _ HC1.out).mono ?_
    rintro e w5 ⟨rfl, d, rfl⟩
    go_wp2_with fail
    go_ret
    exact ⟨rfl, HC1.out.drewN d, ⟨HG1.out.os, HG1.out.tape, HG1.out.output, HG1.out.size, HG1.out.block⟩⟩
set_option maxHeartbeats 2000000 in
/-- .. where the length is one of those that may be, but below 2 or beyond the end. -/
theorem takeV_far (g p n cap b off rn rc : Nat) (ra : Option Addr) (L zs : List Int) (w : World) (hc : Cur w g (.slice (some ⟨b, off, none⟩) n cap) p .nilIface) (hn : n ≤ 1048576) (hcap : n ≤ cap) (hz : zs.length = n) (ha : Arr w (some ⟨b, off, none⟩) zs) (hb : b ≠ g)
    (hr : ArrI w ra L) (hrn : L.length = rn) (hrm : rn ≤ 16) (hrg : ∀ b off, ra = some ⟨b, off, none⟩ → b ≠ g) (hp : p < n) (hy0 : 0 ≤ tnum ((zs.drop p).take 1)) (hy1 : tnum ((zs.drop p).take 1) ≤ 255) (hk : tnum ((zs.drop p).take 1) < 2 ∨ (n : Int) < (p : Int) - 1 + tnum ((zs.drop p).take 1)) (hL : L = [] ∨ tnum ((zs.drop p).take 1) - 2 ∈ L) :
    Calls Tryd.prog 89 #[.pointer (some ⟨g, 0, none⟩), .slice ra rn rc] w fun e w' => e = .returned (.slice none 0 0) ∧ Cur w' g (.slice (some ⟨b, off, none⟩) n cap) (p + 1) (wErr 2) ∧ w.grownBy w' (some g) := by
  have CT := hide (take_ok g p n cap b off 1 zs w hc hn (by omega) (by omega) hcap hz ha hb (by omega))
  have HR := hide hr
  have HRG := hide hrg
  have CP : Hid (∀ (W : World) (h : Cur W g (.slice (some ⟨b, off, none⟩) n cap) (p + 1) .nilIface), Calls Tryd.prog 45 #[.pointer (some ⟨g, 0, none⟩), .int .i64 (tnum ((zs.drop p).take 1) - 2)] W fun e w' => e = .returned (.slice none 0 0) ∧ Cur w' g (.slice (some ⟨b, off, none⟩) n cap) (p + 1) (wErr 2) ∧ W.grownBy w' (some g)) := hide (fun W h => by
    by_cases h2 : tnum ((zs.drop p).take 1) < 2
    · exact pass_neg g (p + 1) _ _ W h (by omega) (by omega)
    · have e : tnum ((zs.drop p).take 1) - 2 = (((tnum ((zs.drop p).take 1) - 2).toNat : Nat) : Int) := by omega
      rw [e]
      exact pass_no g (p + 1) n cap _ _ W h (by omega) (by omega) (by omega) (by omega))
  have CC := hide (fun (W : World) (h : ArrI W ra L) => containsI_walk ra rn rc L (tnum ((zs.drop p).take 1) - 2) W hrn h (by omega))
  have HL := hide hL
  have HN := hide hrn
  clear hc ha hz hr hrg hL hrn hk
  generalize tnum ((zs.drop p).take 1) = y at *
  go_enter Tryd.func89, Tryd.ntmps89
  go_wp2_with fail
  refine CT.out.mono ?_
  rintro e w1 ⟨rfl, hc1, hg1⟩
  have HC1 := hide hc1
  have HG1 := hide hg1
  have HR1 := hide (HR.out.keepg hg1 HRG.out)
  clear hc1 hg1 CT
  by_cases hl : rn = 0
  · subst hl
    go_wp2_with fail
    refine (demand_yes g (p + 1) _ 10 w1 HC1.out).mono ?_
    rintro e w2 ⟨rfl, hw2⟩
    subst hw2
    go_wp2_with fail
    refine (CP.out _ HC1.out).mono ?_
    rintro e w5 ⟨rfl, hc5, hg5⟩
    have HC5 := hide hc5
    have HG5 := hide (grown_trans HG1.out hg5)
    clear hc5 hg5
    go_wp2_with fail
    go_ret
    exact ⟨rfl, HC5.out, HG5.out⟩
  · have hl2 : ((rn : Int) == 0) = false := beq_eq_false_iff_ne.2 (by omega)
    have hm : y - 2 ∈ L := by
      rcases HL.out with h | h
      · exact absurd (by rw [← HN.out, h]; rfl) hl
      · exact h
    have HC := hide (CC.out w1 HR1.out)
    rw [decide_eq_true hm] at HC
    clear hm
    go_wp2_with fail
    refine HC.out.mono ?_
    rintro e w2 ⟨rfl, rfl⟩
    go_wp2_with fail
    refine (demand_yes g (p + 1) _ 10 _ HC1.out).mono ?_
    rintro e w3 ⟨rfl, hw3⟩
    subst hw3
    go_wp2_with fail
    refine (CP.out _ HC1.out).mono ?_
    rintro e w5 ⟨rfl, hc5, hg5⟩
    have HC5 := hide hc5
    have HG5 := hide (grown_trans HG1.out hg5)
    clear hc5 hg5
    go_wp2_with fail
    go_ret
    exact ⟨rfl, HC5.out, HG5.out⟩
set_option maxHeartbeats 2000000 in
/-- .. where there is no byte behind the length, and it is the last one that there is room for. -/
theorem takeV_last (g p n cap b off rn rc : Nat) (ra : Option Addr) (L zs : List Int) (w : World) (hc : Cur w g (.slice (some ⟨b, off, none⟩) n cap) p .nilIface) (hn : n ≤ 1048576) (hcap : n ≤ cap) (hz : zs.length = n) (ha : Arr w (some ⟨b, off, none⟩) zs) (hb : b ≠ g)
    (hr : ArrI w ra L) (hrn : L.length = rn) (hrm : rn ≤ 16) (hrg : ∀ b off, ra = some ⟨b, off, none⟩ → b ≠ g) (hp : p < n) (hy : tnum ((zs.drop p).take 1) = 2) (hL : L = [] ∨ (0 : Int) ∈ L) :
    Calls Tryd.prog 89 #[.pointer (some ⟨g, 0, none⟩), .slice ra rn rc] w fun e w' => (∃ a', e = .returned (.slice a' 0 (cap - (p + 1)))) ∧ Cur w' g (.slice (some ⟨b, off, none⟩) n cap) (p + 1) .nilIface ∧ w.grownBy w' (some g) := by
  have CT := hide (take_ok g p n cap b off 1 zs w hc hn (by omega) (by omega) hcap hz ha hb (by omega))
  rw [hy] at CT
  have HR := hide hr
  have HRG := hide hrg
  have CP := hide (fun (W : World) (h : Cur W g (.slice (some ⟨b, off, none⟩) n cap) (p + 1) .nilIface) => pass_zero g (p + 1) n cap b off W h (by omega) (by omega) hcap)
  have CC := hide (fun (W : World) (h : ArrI W ra L) => containsI_walk ra rn rc L 0 W hrn h (by omega))
  have HL := hide hL
  have HN := hide hrn
  clear hc ha hz hr hrg hL hrn hy
  go_enter Tryd.func89, Tryd.ntmps89
  go_wp2_with fail
  refine CT.out.mono ?_
  rintro e w1 ⟨rfl, hc1, hg1⟩
  have HC1 := hide hc1
  have HG1 := hide hg1
  have HR1 := hide (HR.out.keepg hg1 HRG.out)
  clear hc1 hg1 CT
  by_cases hl : rn = 0
  · subst hl
    go_wp2_with fail
    refine (demand_yes g (p + 1) _ 10 w1 HC1.out).mono ?_
    rintro e w2 ⟨rfl, hw2⟩
    subst hw2
    go_wp2_with fail
    refine (CP.out _ HC1.out).mono ?_
    rintro e w5 ⟨a', rfl, hc5, hg5⟩
    have HC5 := hide hc5
    have HG5 := hide (grown_trans HG1.out hg5)
    clear hc5 hg5
    go_wp2_with fail
    go_ret
    exact ⟨⟨_, rfl⟩, HC5.out, HG5.out⟩
  · have hl2 : ((rn : Int) == 0) = false := beq_eq_false_iff_ne.2 (by omega)
    have hm : (0 : Int) ∈ L := by
      rcases HL.out with h | h
      · exact absurd (by rw [← HN.out, h]; rfl) hl
      · exact h
    have HC := hide (CC.out w1 HR1.out)
    rw [decide_eq_true hm] at HC
    clear hm
    go_wp2_with fail
    refine HC.out.mono ?_
    rintro e w2 ⟨rfl, rfl⟩
    go_wp2_with fail
    refine (demand_yes g (p + 1) _ 10 _ HC1.out).mono ?_
    rintro e w3 ⟨rfl, hw3⟩
    subst hw3
    go_wp2_with fail
    refine (CP.out _ HC1.out).mono ?_
    rintro e w5 ⟨a', rfl, hc5, hg5⟩
    have HC5 := hide hc5
    have HG5 := hide (grown_trans HG1.out hg5)
    clear hc5 hg5
    go_wp2_with fail
    go_ret
    exact ⟨⟨_, rfl⟩, HC5.out, HG5.out⟩
end Go.Proofs.YtcnfnimgpiaamaaDoor
