/-
Contracts of functions of this seat.
-/
import Derived.Test.YtgegnkboibgbgaaRows
import Derived.WalkKit
import Derived.ProofKit
import Derived.OpenShut
import Derived.Test.YtgegnkboibgbgaaFrl
namespace Go.Proofs.Ytgegnkboibgbgaa
open Go.ChangeShapes Go.WideShapes Go.ChangeAt Go.RowKit
set_option linter.unusedVariables false
set_option maxRecDepth 100000
/-- What is wanted of a function of a text that answers rules, a code and a line's number. -/
def ReadRulesC (f : Nat) (Pre : World → Prop) (s : ByteArray) (L : List Int) (C N : Int) : Prop :=
  ∀ (w : World), s.size ≤ 1048576 → Pre w → Calls Try.prog f #[.string s] w fun e w' => ∃ v, e = .returned (.tuple #[v, .int .i64 C, .int .i64 N]) ∧ OwnI w' w.heap.size 45 12 v (L.length / 12) L ∧ Below w.heap.size w w'
set_option maxHeartbeats 8000000 in
theorem walkReadRules0 (Pre : World → Prop) (hpre : ∀ (w w' : World), Pre w → Below w.heap.size w w' → Pre w') (s : ByteArray) (L : List Int) (C N : Int) (hS : ReadRulesC 10 Pre s L C N) (hI : ReadRulesC 11 Pre s L C N) (hL : L.length ≤ 12582912) (hs : s.size ≤ 1048576 ∨ 1048576 < s.size)
    (w : World) (hmx : s.size ≤ 9223372036854775807) (hp : Pre w) :
    Calls Try.prog 4 #[.string s] w fun e w' => e = .returned (.bool true) ∧ Below w.heap.size w w' := by
  rcases hs with hs | hs
  · have hs' : ¬ (1048576 : Int) < (s.size : Int) := by omega
    have CS := hide (fun W (hb : Below w.heap.size w W) => hS W hs (hpre w W hp hb))
    have CI := hide (fun W (hb : Below w.heap.size w W) => hI W hs (hpre w W hp hb))
    have hn : L.length / 12 ≤ 1048576 := by omega
    clear hS hI hpre hp
    generalize hnn : L.length / 12 = n at *
    go_enter Try.func4, Try.ntmps4
    go_wp2_with fail
    refine (CS.out w (Below.refl _ _)).mono ?_
    rintro e w1 ⟨vw, rfl, hOw, hb1⟩
    have hlen := hOw.len
    have hwlt := fun b (h : vw.ownBlock = some b) => ownsAt.lt hOw b h
    obtain ⟨aw, cw, ew, _, _⟩ := hOw.arr
    subst ew
    have HB1 := hide hb1
    have HOW1 := hide hOw
    have HWL := hide hwlt
    have HLEN := hide hlen
    clear hb1 hOw hwlt hlen CS
    go_wp2_with fail
    refine (CI.out w1 HB1.out).mono ?_
    rintro e w2 ⟨vg, rfl, hOg, hb2⟩
    have hglt := fun b (h : vg.ownBlock = some b) => ownsAt.lt hOg b h
    obtain ⟨ag, cg, eg, _, _⟩ := hOg.arr
    subst eg
    have HB2 := hide (HB1.out.trans (hb2.mono HB1.out.size))
    have HOW2 := hide (HOW1.out.next hb2)
    have HOG2 := hide hOg
    have HGL := hide hglt
    have hz1 := HB1.out.size
    clear hb2 hOg hglt HB1 HOW1
    have E := hide (eqRuleS_walk ag aw n cg cw L w2 HLEN.out (by obtain ⟨a', c', e, h', _⟩ := HOG2.out.arr; cases e; exact h') (by obtain ⟨a', c', e, h', _⟩ := HOW2.out.arr; cases e; exact h') hn)
    go_wp2_with fail
    refine E.out.mono ?_
    rintro e w3 ⟨rfl, hb3⟩
    have HB3 := hide (HB2.out.trans (hb3.mono HB2.out.size))
    have HOW3 := hide (HOW2.out.next hb3)
    have HOG3 := hide (HOG2.out.next hb3)
    clear hb3 HB2 HOW2 HOG2 E
    have M := hide (markRule_walk (.slice ag n cg) w1.heap.size n L 1 w3 HOG3.out (by omega) (by omega))
    go_wp2_with fail
    refine M.out.mono ?_
    rintro e w4 ⟨rfl, hO4, hg4⟩
    have HOG4 := hide hO4
    have HOW4 := hide (HOW3.out.kept hg4 (by
      cases ho : (Value.slice aw n cw).ownBlock with
      | none => exact .inl rfl
      | some b =>
        refine .inr fun h => ?_
        have h1 := HWL.out b ho
        have h2 := HGL.out b h.symm
        omega))
    have HB4 := hide (HB3.out.grown hg4 HB3.out.size (fun b hb => by have := HGL.out b hb; omega))
    clear hO4 hg4 M HB3 HOW3 HOG3
    have HD := hide (heldRule_walk ag n cg 1 w4 (by obtain ⟨a', c', e, h', _⟩ := HOG4.out.arr; cases e; exact h') (by omega) (by omega))
    go_wp2_with fail
    refine HD.out.mono ?_
    rintro e w5 ⟨rfl, hw5⟩
    rw [hw5]
    clear hw5 HD
    go_wp2_with fail
    refine (CI.out w4 HB4.out).mono ?_
    rintro e w6 ⟨vh, rfl, hOh, hb6⟩
    obtain ⟨ah, ch, eh, _, _⟩ := hOh.arr
    subst eh
    have HB6 := hide (HB4.out.trans (hb6.mono HB4.out.size))
    have HOW6 := hide (HOW4.out.next hb6)
    have HOG6 := hide (HOG4.out.next hb6)
    have HOH6 := hide hOh
    clear hb6 hOh HB4 HOW4 HOG4 CI
    have E := hide (eqRuleS_walk ah aw n ch cw L w6 HLEN.out (by obtain ⟨a', c', e, h', _⟩ := HOH6.out.arr; cases e; exact h') (by obtain ⟨a', c', e, h', _⟩ := HOW6.out.arr; cases e; exact h') hn)
    go_wp2_with fail
    refine E.out.mono ?_
    rintro e w7 ⟨rfl, hb7⟩
    have HB7 := hide (HB6.out.trans (hb7.mono HB6.out.size))
    have HOG7 := hide (HOG6.out.next hb7)
    clear hb7 HB6 HOG6 HOW6 HOH6 E
    have HD := hide (heldRule_walk ag n cg 1 w7 (by obtain ⟨a', c', e, h', _⟩ := HOG7.out.arr; cases e; exact h') (by omega) (by omega))
    go_wp2_with fail
    refine HD.out.mono ?_
    rintro e w8 ⟨rfl, hw8⟩
    rw [hw8]
    clear hw8 HD
    go_wp2_with fail
    go_ret
    exact ⟨rfl, HB7.out⟩
  · have hs' : (1048576 : Int) < (s.size : Int) := by omega
    clear hS hI hpre hp
    go_enter Try.func4, Try.ntmps4
    go_wp2_with fail
    go_ret
    exact ⟨rfl, Below.refl _ _⟩
end Go.Proofs.Ytgegnkboibgbgaa
