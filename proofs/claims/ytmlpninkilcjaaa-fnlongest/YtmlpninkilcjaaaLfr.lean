/-
Contracts of functions of this seat.
-/
import Derived.Test.YtmlpninkilcjaaaRows
import Derived.WalkKit
import Derived.ProofKit
import Derived.OpenShut
import Derived.Test.YtmlpninkilcjaaaFrt
import Derived.Test.YtmlpninkilcjaaaTrt
namespace Go.Proofs.Ytmlpninkilcjaaa
open Go.ChangeShapes Go.WideShapes Go.ChangeAt Go.RowKit
set_option linter.unusedVariables false
set_option maxRecDepth 100000
/-- What is wanted of a function of routes and an address that answers a route and a bool. -/
def FindRouteC (f : Nat) (Pre : World → Prop) (zs : List Int) (dst r0 r1 r2 r3 r4 : Int) (F : Bool) : Prop :=
  ∀ (a : Option Addr) (n cap : Nat) (w : World), zs.length = n * 5 → ArrI w a zs → n ≤ cap → n ≤ 1048576 → Pre w →
    Calls Try.prog f #[.slice a n cap, .int .i64 dst] w fun e w' => e = .returned (.tuple #[.agg #[.int .i64 r0, .int .i64 r1, .int .i64 r2, .int .i64 r3, .int .i64 r4], .bool F]) ∧ Below w.heap.size w w'
set_option maxHeartbeats 8000000 in
theorem walkFindRoute0 (Pre : World → Prop) (hpre : ∀ (w w' : World), Pre w → Below w.heap.size w w' → Pre w') (zs : List Int) (dst r0 r1 r2 r3 r4 : Int) (F : Bool) (hS : FindRouteC 7 Pre zs dst r0 r1 r2 r3 r4 F) (hI : FindRouteC 9 Pre zs dst r0 r1 r2 r3 r4 F)
    (a : Option Addr) (n cap : Nat) (w : World) (hn : zs.length = n * 5) (ha : ArrI w a zs) (hm0 : n ≤ 9223372036854775807) (hp : Pre w) :
    Calls Try.prog 3 #[.slice a n cap, .int .i64 dst] w fun e w' => e = .returned (.bool true) ∧ Below w.heap.size w w' := by
  have HZ := hide (fun w => szRouteS_walk a n cap w hm0)
  by_cases hbig : 1048576 < (n : Int)
  · rw [if_pos hbig] at HZ
    clear hS hI hpre hp ha hn
    go_enter Try.func3, Try.ntmps3
    go_wp2_with fail
    refine (HZ.out _).mono ?_
    rintro e w1 ⟨rfl, hw1⟩
    rw [hw1]
    go_wp2_with fail
    go_ret
    exact ⟨rfl, Below.refl _ _⟩
  · rw [if_neg hbig] at HZ
    have hm : n ≤ 1048576 := by omega
    have hz : ¬ (1048576 - (n : Int)) < 0 := by omega
    have CT := hide (fun W (hb : Below w.heap.size w W) => toRouteS_walk a n cap zs W hn (ha.below hb (Nat.le_refl _)) hm)
    have CS := hide (fun W g B (hb : Below w.heap.size w W) (h : OwnI W B 27 5 (.slice (some ⟨g, 0, none⟩) n n) n zs) => hS (some ⟨g, 0, none⟩) n n W hn (by obtain ⟨a', c', e, h', _⟩ := h.arr; cases e; exact h') (Nat.le_refl _) hm (hpre w W hp hb))
    have CI := hide (fun W g B (hb : Below w.heap.size w W) (h : OwnI W B 27 5 (.slice (some ⟨g, 0, none⟩) n n) n zs) => hI (some ⟨g, 0, none⟩) n n W hn (by obtain ⟨a', c', e, h', _⟩ := h.arr; cases e; exact h') (Nat.le_refl _) hm (hpre w W hp hb))
    have HN := hide hn
    clear hS hI hpre hp ha hn
    go_enter Try.func3, Try.ntmps3
    go_wp2_with fail
    refine (HZ.out _).mono ?_
    rintro e w0 ⟨rfl, hw0⟩
    rw [hw0]
    clear hw0 HZ
    go_wp2_with fail
    refine (CT.out w (Below.refl _ _)).mono ?_
    rintro e w1 ⟨rfl, hO1, hb1⟩
    have HB1 := hide hb1
    have HO1 := hide hO1
    clear hb1 hO1
    go_wp2_with fail
    refine (CS.out _ _ _ HB1.out HO1.out).mono ?_
    rintro e w2 ⟨rfl, hb2⟩
    have hal := (Below.refl w2.heap.size w2).alloc (Nat.le_refl _) (.cells #[.int .i64 r0, .int .i64 r1, .int .i64 r2, .int .i64 r3, .int .i64 r4] 27)
    have HB2 := hide ((HB1.out.trans (hb2.mono HB1.out.size)).trans (hal.mono (HB1.out.trans (hb2.mono HB1.out.size)).size))
    have HW2 : Hid (HoldV (w2.alloc (.cells #[.int .i64 r0, .int .i64 r1, .int .i64 r2, .int .i64 r3, .int .i64 r4] 27)) w2.heap.size #[.int .i64 r0, .int .i64 r1, .int .i64 r2, .int .i64 r3, .int .i64 r4] 27) := hide (heap_alloc_new _ _)
    clear hb2 HB1 HO1 CS hal
    go_wp2_with fail
    generalize hV2 : w2.alloc (.cells #[.int .i64 r0, .int .i64 r1, .int .i64 r2, .int .i64 r3, .int .i64 r4] 27) = V2 at *
    clear hV2
    generalize w2.heap.size = X at *
    refine (CT.out V2 HB2.out).mono ?_
    rintro e w3 ⟨rfl, hO3, hb3⟩
    have HB3 := hide (HB2.out.trans (hb3.mono HB2.out.size))
    have HO3 := hide hO3
    have HW3 := hide (HW2.out.next hb3)
    clear hb3 hO3 HB2 HW2
    go_wp2_with fail
    refine (CI.out _ _ _ HB3.out HO3.out).mono ?_
    rintro e w4 ⟨rfl, hb4⟩
    have hal := (Below.refl w4.heap.size w4).alloc (Nat.le_refl _) (.cells #[.int .i64 r0, .int .i64 r1, .int .i64 r2, .int .i64 r3, .int .i64 r4] 27)
    have HB4 := hide ((HB3.out.trans (hb4.mono HB3.out.size)).trans (hal.mono (HB3.out.trans (hb4.mono HB3.out.size)).size))
    have HO4 := hide ((HO3.out.next hb4).next hal)
    have HW4 := hide ((HW3.out.next hb4).next hal)
    have HG4 : Hid (HoldV (w4.alloc (.cells #[.int .i64 r0, .int .i64 r1, .int .i64 r2, .int .i64 r3, .int .i64 r4] 27)) w4.heap.size #[.int .i64 r0, .int .i64 r1, .int .i64 r2, .int .i64 r3, .int .i64 r4] 27) := hide (heap_alloc_new _ _)
    clear hb4 HB3 HO3 HW3 CI hal
    generalize hV4 : w4.alloc (.cells #[.int .i64 r0, .int .i64 r1, .int .i64 r2, .int .i64 r3, .int .i64 r4] 27) = V4 at *
    have HV4 := hide hV4
    clear hV4
    have g0 := HG4.out.cell 0 _ rfl
    have g1 := HG4.out.cell 1 _ rfl
    have g2 := HG4.out.cell 2 _ rfl
    have g3 := HG4.out.cell 3 _ rfl
    have g4 := HG4.out.cell 4 _ rfl
    have x0 := HW4.out.cell 0 _ rfl
    have x1 := HW4.out.cell 1 _ rfl
    have x2 := HW4.out.cell 2 _ rfl
    have x3 := HW4.out.cell 3 _ rfl
    have x4 := HW4.out.cell 4 _ rfl
    rw [← HV4.out] at g0 g1 g2 g3 g4 x0 x1 x2 x3 x4
    go_wp2_with fail
    rw [HV4.out]
    clear g0 g1 g2 g3 g4 x0 x1 x2 x3 x4 HG4 HW4 HV4
    refine (eqRoute_walk r0 r1 r2 r3 r4 _).mono ?_
    rintro e w5 ⟨rfl, hb5⟩
    have HB5 := hide (HB4.out.trans (hb5.mono HB4.out.size))
    have HO5 := hide (HO4.out.next hb5)
    clear hb5 HB4 HO4
    go_wp2_with fail
    refine (CT.out w5 HB5.out).mono ?_
    rintro e w6 ⟨rfl, hO6, hb6⟩
    have HB6 := hide (HB5.out.trans (hb6.mono HB5.out.size))
    have HO6 := hide (HO5.out.next hb6)
    have HX6 := hide hO6
    clear hb6 hO6 HB5 HO5
    have E := hide (eqRouteS_walk _ _ n n n zs w6 HN.out (by obtain ⟨a', c', e, h', _⟩ := HO6.out.arr; cases e; exact h') (by obtain ⟨a', c', e, h', _⟩ := HX6.out.arr; cases e; exact h') hm)
    go_wp2_with fail
    refine E.out.mono ?_
    rintro e w7 ⟨rfl, hb7⟩
    have HB7 := hide (HB6.out.trans (hb7.mono HB6.out.size))
    clear hb7
    go_wp2_with fail
    go_ret
    exact ⟨rfl, HB7.out⟩
end Go.Proofs.Ytmlpninkilcjaaa
