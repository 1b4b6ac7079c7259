/-
Contracts of functions of this seat.
-/
import Derived.Test.YtgegnkboibgbgaaRows
import Derived.WalkKit
import Derived.ProofKit
import Derived.OpenShut
import Derived.Test.YtgegnkboibgbgaaPh2
import Derived.Test.YtgegnkboibgbgaaVlr
namespace Go.Proofs.Ytgegnkboibgbgaa
open Go.ChangeShapes Go.WideShapes Go.ChangeAt Go.RowKit
set_option linter.unusedVariables false
set_option maxRecDepth 100000
set_option maxHeartbeats 2000000 in
theorem phrase_decimal (w : World) (p N : Nat) (ps : List (List UInt8)) (ill : Bool) (most : Int) (hm : 0 ≤ most ∧ most ≤ 1000000) (hl : ps.length ≤ 1048576) (hw : ∀ q ∈ ps, q.length ≤ 1048576) (h : Phr w p N ps ill) :
    Calls Try.prog 35 #[.pointer (some ⟨p, 0, none⟩), .int .i64 most] w fun e w' => e = .returned (.int .i64 (numX (tkW ps ill) most)) ∧ Phr w' p N (tkR ps ill) (tkI ps ill || !numOK (tkW ps ill) most) ∧ w.grownBy w' (some p) := by
  have CT := hide (phrase_take w p N ps ill hl h)
  have HL := hide (tkW_len (ill := ill) hw)
  generalize tkW ps ill = W0 at *
  generalize tkR ps ill = R0 at *
  generalize tkI ps ill = I0 at *
  clear h hw hl
  go_enter Try.func35, Try.ntmps35
  go_wp2_with fail
  refine CT.out.mono ?_
  rintro e w1 ⟨rfl, hp1, hg1⟩
  have HG1 := hide hg1
  have CD := hide (phrase_demand w1 p N R0 I0 (numOK W0 most) hp1)
  clear hg1 hp1 CT
  go_wp2_with fail
  refine (decimal_walk W0 most w1 HL.out hm).mono ?_
  rintro e w2 ⟨rfl, rfl⟩
  go_wp2_with fail
  refine CD.out.mono ?_
  rintro e w3 ⟨rfl, hp3, hg3⟩
  have HF := hide (And.intro hp3 (grown_trans HG1.out hg3))
  clear hp3 hg3
  go_wp2_with fail
  go_ret
  exact ⟨rfl, HF.out.1, HF.out.2⟩
/-- Whether a word is a host's address. -/
def hoOK (l : List UInt8) : Bool := adOK l && (kindA (adX l) == 6)
set_option maxHeartbeats 2000000 in
theorem phrase_host (w : World) (p N : Nat) (ps : List (List UInt8)) (ill : Bool) (hl : ps.length ≤ 1048576) (hw : ∀ q ∈ ps, q.length ≤ 1048576) (h : Phr w p N ps ill) :
    Calls Try.prog 33 #[.pointer (some ⟨p, 0, none⟩)] w fun e w' => e = .returned (.int .i64 (adX (tkW ps ill))) ∧ Phr w' p N (tkR ps ill) (tkI ps ill || !hoOK (tkW ps ill)) ∧ w.grownBy w' (some p) := by
  have CT := hide (phrase_take w p N ps ill hl h)
  have HL := hide (tkW_len (ill := ill) hw)
  generalize tkW ps ill = W0 at *
  generalize tkR ps ill = R0 at *
  generalize tkI ps ill = I0 at *
  clear h hw hl
  cases ho : adOK W0 with
  | true =>
    have HH : Hid ((kindA (adX W0) == 6) = hoOK W0) := hide (by unfold hoOK; rw [ho, Bool.true_and])
    have HC : Hid (adC W0 = 0) := hide (adC_yes ho)
    clear ho
    go_enter Try.func33, Try.ntmps33
    go_wp2_with fail
    refine CT.out.mono ?_
    rintro e w1 ⟨rfl, hp1, hg1⟩
    have HP1 := hide (And.intro hp1 hg1)
    clear hg1 hp1 CT
    go_wp2_with fail
    refine (addr_walk W0 w1 HL.out).mono ?_
    rintro e w2 ⟨rfl, hb2⟩
    rw [HC.out]
    have HP2 := hide (And.intro (HP1.out.1.next hb2) (grown_below HP1.out.2 hb2))
    clear hb2 HP1 HC
    have hH := HH.out
    generalize hX : adX W0 = X at *
    have HX := hide hX
    clear hX HH
    go_wp2_with fail
    refine (kindA_walk X w2).mono ?_
    rintro e w4 ⟨rfl, hb4⟩
    have HP4 := hide (And.intro (HP2.out.1.next hb4) (grown_below HP2.out.2 hb4))
    clear hb4 HP2
    have CD := hide (phrase_demand w4 p N R0 I0 (hoOK W0) HP4.out.1)
    go_wp2_with fail
    refine CD.out.mono ?_
    rintro e w3 ⟨rfl, hp3, hg3⟩
    have HF := hide (And.intro hp3 (grown_trans HP4.out.2 hg3))
    clear hp3 hg3
    go_wp2_with fail
    go_ret
    exact ⟨by rw [HX.out]; rfl, HF.out.1, HF.out.2⟩
  | false =>
    have HH : Hid (hoOK W0 = false) := hide (by unfold hoOK; rw [ho, Bool.false_and])
    have HC : Hid (adC W0 = 6) := hide (adC_no ho)
    clear ho
    rw [HH.out]
    go_enter Try.func33, Try.ntmps33
    go_wp2_with fail
    refine CT.out.mono ?_
    rintro e w1 ⟨rfl, hp1, hg1⟩
    have HP1 := hide (And.intro hp1 hg1)
    clear hg1 hp1 CT
    go_wp2_with fail
    refine (addr_walk W0 w1 HL.out).mono ?_
    rintro e w2 ⟨rfl, hb2⟩
    rw [HC.out]
    have HP2 := hide (And.intro (HP1.out.1.next hb2) (grown_below HP1.out.2 hb2))
    clear hb2 HP1 HC
    have CD := hide (phrase_demand w2 p N R0 I0 false HP2.out.1)
    go_wp2_with fail
    refine CD.out.mono ?_
    rintro e w3 ⟨rfl, hp3, hg3⟩
    have HF := hide (And.intro hp3 (grown_trans HP2.out.2 hg3))
    clear hp3 hg3
    go_wp2_with fail
    go_ret
    exact ⟨rfl, HF.out.1, HF.out.2⟩
end Go.Proofs.Ytgegnkboibgbgaa
