/-
Contracts of functions of this seat.
-/
import Derived.Test.YtjojeplffefnpaaDoorRows
import Derived.WalkKit
import Derived.ProofKit
import Derived.OpenShut
import Derived.Test.YtjojeplffefnpaaDoorFrl
import Derived.Test.YtjojeplffefnpaaDoorTrl
namespace Go.Proofs.YtjojeplffefnpaaDoor
open Go.ChangeShapes Go.WideShapes Go.ChangeAt Go.RowKit
set_option linter.unusedVariables false
set_option maxRecDepth 100000
/-- What is wanted of a function of rules that answers a text and a code. -/
def ShowRulesC (f : Nat) (Pre : World → Prop) (zs : List Int) (S : ByteArray) (C : Int) : Prop :=
  ∀ (a : Option Addr) (n cap : Nat) (w : World), zs.length = n * 12 → ArrI w a zs → n ≤ cap → n ≤ 1048576 → Pre w →
    Calls Tryd.prog f #[.slice a n cap] w fun e w' => e = .returned (.tuple #[.string S, .int .i64 C]) ∧ Below w.heap.size w w'
set_option maxHeartbeats 8000000 in
theorem walkShowRules0 (Pre : World → Prop) (hpre : ∀ (w w' : World), Pre w → Below w.heap.size w w' → Pre w') (zs : List Int) (S : ByteArray) (C : Int) (hS : ShowRulesC 6 Pre zs S C) (hI : ShowRulesC 8 Pre zs S C)
    (a : Option Addr) (n cap : Nat) (w : World) (hn : zs.length = n * 12) (ha : ArrI w a zs) (hm0 : n ≤ 9223372036854775807) (hp : Pre w) :
    Calls Tryd.prog 3 #[.slice a n cap] w fun e w' => e = .returned (.bool true) ∧ Below w.heap.size w w' := by
  have HZ := hide (fun w => szRuleS_walk a n cap w hm0)
  by_cases hbig : 1048576 < (n : Int)
  · rw [if_pos hbig] at HZ
    clear hS hI hpre hp ha hn
    go_enter Tryd.func3, Tryd.ntmps3
    go_wp2_with fail
    refine (HZ.out _).mono ?_
    rintro e w1 ⟨rfl, hw1⟩
    rw [hw1]
    go_wp2_with fail
    go_ret
    exact ⟨rfl, Below.refl _ _⟩
  · rw [if_neg hbig] at HZ
    have hm : n ≤ 1048576 := by omega
    have hz : ¬ (1048576 - (n : Int)) < 0 := by omega
    have CT := hide (fun W (hb : Below w.heap.size w W) => toRuleS_walk a n cap zs W hn (ha.below hb (Nat.le_refl _)) hm)
    have CS := hide (fun W g B (hb : Below w.heap.size w W) (h : OwnI W B 44 12 (.slice (some ⟨g, 0, none⟩) n n) n zs) => hS (some ⟨g, 0, none⟩) n n W hn (by obtain ⟨a', c', e, h', _⟩ := h.arr; cases e; exact h') (Nat.le_refl _) hm (hpre w W hp hb))
    have CI := hide (fun W g B (hb : Below w.heap.size w W) (h : OwnI W B 44 12 (.slice (some ⟨g, 0, none⟩) n n) n zs) => hI (some ⟨g, 0, none⟩) n n W hn (by obtain ⟨a', c', e, h', _⟩ := h.arr; cases e; exact h') (Nat.le_refl _) hm (hpre w W hp hb))
    have HN := hide hn
    clear hS hI hpre hp ha hn
    go_enter Tryd.func3, Tryd.ntmps3
    go_wp2_with fail
    refine (HZ.out _).mono ?_
    rintro e w0 ⟨rfl, hw0⟩
    rw [hw0]
    clear hw0 HZ
    go_wp2_with fail
    refine (CT.out w (Below.refl _ _)).mono ?_
    rintro e w1 ⟨rfl, hO1, hb1⟩
    have HB1 := hide hb1
    have HO1 := hide hO1
    clear hb1 hO1
    go_wp2_with fail
    refine (CS.out _ _ _ HB1.out HO1.out).mono ?_
    rintro e w2 ⟨rfl, hb2⟩
    have HB2 := hide (HB1.out.trans (hb2.mono HB1.out.size))
    clear hb2 HB1 HO1 CS
    go_wp2_with fail
    refine (CT.out w2 HB2.out).mono ?_
    rintro e w3 ⟨rfl, hO3, hb3⟩
    have HB3 := hide (HB2.out.trans (hb3.mono HB2.out.size))
    have HO3 := hide hO3
    clear hb3 hO3 HB2
    go_wp2_with fail
    refine (CI.out _ _ _ HB3.out HO3.out).mono ?_
    rintro e w4 ⟨rfl, hb4⟩
    have HB4 := hide (HB3.out.trans (hb4.mono HB3.out.size))
    have HO4 := hide (HO3.out.next hb4)
    clear hb4 HB3 HO3 CI
    go_wp2_with fail
    refine (CT.out w4 HB4.out).mono ?_
    rintro e w6 ⟨rfl, hO6, hb6⟩
    have HB6 := hide (HB4.out.trans (hb6.mono HB4.out.size))
    have HO6 := hide (HO4.out.next hb6)
    have HX6 := hide hO6
    clear hb6 hO6 HB4 HO4
    have E := hide (eqRuleS_walk _ _ n n n zs w6 HN.out (by obtain ⟨a', c', e, h', _⟩ := HO6.out.arr; cases e; exact h') (by obtain ⟨a', c', e, h', _⟩ := HX6.out.arr; cases e; exact h') hm)
    go_wp2_with fail
    refine E.out.mono ?_
    rintro e w7 ⟨rfl, hb7⟩
    have HB7 := hide (HB6.out.trans (hb7.mono HB6.out.size))
    clear hb7
    go_wp2_with fail
    go_ret
    exact ⟨rfl, HB7.out⟩
end Go.Proofs.YtjojeplffefnpaaDoor
