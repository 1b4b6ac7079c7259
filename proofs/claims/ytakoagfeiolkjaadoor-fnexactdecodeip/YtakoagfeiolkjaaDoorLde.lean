/-
Contracts of functions of this seat.
-/
import Derived.Test.YtakoagfeiolkjaaDoorRows
import Derived.WalkKit
import Derived.ProofKit
import Derived.OpenShut
import Derived.Test.YtakoagfeiolkjaaDoorStp
namespace Go.Proofs.YtakoagfeiolkjaaDoor
open Go.ChangeShapes Go.WideShapes Go.ChangeAt Go.RowKit
set_option linter.unusedVariables false
set_option maxRecDepth 100000
set_option maxHeartbeats 8000000 in
set_option maxRecDepth 100000 in
theorem walkDecodeIP0 (Pre : World → Prop) (hpre : ∀ (w w' : World), Pre w → Below w.heap.size w w' → Pre w') (a : Option Addr) (n cap : Nat) (zs : List Int) (x0 : Int) (x1 : Int) (x2 : Bool) (x3 : Bool) (x4 : Int) (x5 : Int) (x6 : Int) (x7 : Int) (x8 : Int) (L0 L1 : List Int) (C : Int) (w : World) (hn : zs.length = n) (ha : Arr w a zs) (hS : DecPacketP 17 Pre zs x0 x1 x2 x3 x4 x5 x6 x7 x8 L0 L1 C) (hI : DecPacketP 18 Pre zs x0 x1 x2 x3 x4 x5 x6 x7 x8 L0 L1 C) (l0 : L0.length ≤ 1048576) (l1 : L1.length ≤ 1048576) (hp : Pre w) :
    Calls Tryd.prog 5 #[.slice a n cap] w fun e w' => e = .returned (.bool true) ∧ Below w.heap.size w w' := by
  by_cases hbig : 1048576 < n
  · clear hn ha hS hI hpre hp
    go_enter Tryd.func5, Tryd.ntmps5
    go_wp2
    go_ret
    exact ⟨rfl, Below.refl _ _⟩
  have hm : n ≤ 1048576 := by omega
  have CT := hide (fun W (hb : Below w.heap.size w W) => toByteS_own a n cap zs W hn (ha.below hb (Nat.le_refl _)) hm)
  have CS := hide (fun W g B (hb : Below w.heap.size w W) (h : OwnB W B (.slice (some ⟨g, 0, none⟩) n n) zs) => hS (some ⟨g, 0, none⟩) n n W hn (own_arr h).1 (Nat.le_refl _) hm (hpre w W hp hb))
  have CI := hide (fun W g B (hb : Below w.heap.size w W) (h : OwnB W B (.slice (some ⟨g, 0, none⟩) n n) zs) => hI (some ⟨g, 0, none⟩) n n W hn (own_arr h).1 (Nat.le_refl _) hm (hpre w W hp hb))
  have CQ := hide (fun W g g' B B' (h : OwnB W B (.slice (some ⟨g, 0, none⟩) n n) zs) (h' : OwnB W B' (.slice (some ⟨g', 0, none⟩) n n) zs) => eqByteS_walk (some ⟨g, 0, none⟩) (some ⟨g', 0, none⟩) n n n zs W hn (own_arr h).1 (own_arr h').1 hm)
  have CM := hide (fun W g B (h : OwnB W B (.slice (some ⟨g, 0, none⟩) n n) zs) => markB_walk (.slice (some ⟨g, 0, none⟩) n n) B zs 1 W h (by omega) (by omega))
  rw [hn] at CM
  have hbR := Below.refl w.heap.size w
  clear ha hn hS hI hpre hp
  go_enter Tryd.func5, Tryd.ntmps5
  go_wp2_with fail
  refine (CT.out _ hbR).mono ?_
  rintro e w1 ⟨rfl, hO1, hb1⟩
  go_wp2_with fail
  refine (CS.out _ _ _ hb1 hO1).mono ?_
  rintro e w2 ⟨v0, v1, rfl, o0, o1, d01, hb2⟩
  obtain ⟨pa0, pk0, rfl, _⟩ := own_slice o0
  obtain ⟨pa1, pk1, rfl, _⟩ := own_slice o1
  have hAp : AnsPacket w2 _ pa0 pa1 pk0 pk1 L0.length L1.length L0 L1 := ⟨o0, o1, d01⟩
  clear o0 o1 d01
  have HW2 := hide (below_next hb1 hb2)
  have lt4 := hAp.at
  have HO4 := hide hAp
  have z1 := hb1.size
  have z2 := hb2.size
  have hX3 := CellPacket.start w2 x0 x1 x2 x3 x4 x5 x6 x7 x8 (.slice pa0 L0.length pk0) (.slice pa1 L1.length pk1) 39
  have hA3 := (Below.refl w2.heap.size w2).alloc (Nat.le_refl _) (.cells #[.int .i64 x0, .int .i64 x1, .bool x2, .bool x3, .int .i64 x4, .int .i64 x5, .int .i64 x6, .int .i64 x7, .int .i64 x8, .slice pa0 L0.length pk0, .slice pa1 L1.length pk1] 39)
  clear hO1 hAp hb1 hb2 hbR CS
  go_wp2_with fail
  generalize w2.alloc (.cells #[.int .i64 x0, .int .i64 x1, .bool x2, .bool x3, .int .i64 x4, .int .i64 x5, .int .i64 x6, .int .i64 x7, .int .i64 x8, .slice pa0 L0.length pk0, .slice pa1 L1.length pk1] 39) = W2 at *
  have HX3 := hide hX3
  have zX3 := hX3.1
  have HW2' := hide (below_next HW2.out hA3)
  have HO4a := hide (HO4.out.next hA3)
  clear hX3 hA3 HW2 HO4
  refine (CT.out _ HW2'.out).mono ?_
  rintro e w3 ⟨rfl, hO5, hb3⟩
  have z3 := hb3.size
  have HO5 := hide hO5
  have HW3 := hide (below_next HW2'.out hb3)
  have HO4b := hide (HO4a.out.next hb3)
  have HX3a := hide (HX3.out.next hb3)
  have lt5 := own_lt hO5 W2.heap.size rfl
  clear hO5 hb3 HW2' HO4a HX3
  go_wp2_with fail
  refine (CI.out _ _ _ HW3.out HO5.out).mono ?_
  rintro e w4 ⟨u0, u1, rfl, o0, o1, d01, hb4⟩
  obtain ⟨qa0, qk0, rfl, _⟩ := own_slice o0
  obtain ⟨qa1, qk1, rfl, _⟩ := own_slice o1
  have hAq : AnsPacket w4 _ qa0 qa1 qk0 qk1 L0.length L1.length L0 L1 := ⟨o0, o1, d01⟩
  clear o0 o1 d01
  have z4 := hb4.size
  have lt6 := hAq.at
  have HO6 := hide hAq
  have HW4 := hide (below_next HW3.out hb4)
  have HO4c := hide (HO4b.out.next hb4)
  have HO5a := hide (HO5.out.next hb4)
  have HX3b := hide (HX3a.out.next hb4)
  have hX6 := CellPacket.start w4 x0 x1 x2 x3 x4 x5 x6 x7 x8 (.slice qa0 L0.length qk0) (.slice qa1 L1.length qk1) 39
  have hA6 := (Below.refl w4.heap.size w4).alloc (Nat.le_refl _) (.cells #[.int .i64 x0, .int .i64 x1, .bool x2, .bool x3, .int .i64 x4, .int .i64 x5, .int .i64 x6, .int .i64 x7, .int .i64 x8, .slice qa0 L0.length qk0, .slice qa1 L1.length qk1] 39)
  clear hAq hb4 HW3 HO4b HO5 HX3a
  obtain ⟨ee, e0, e1, e2, e3, e4, e5, e6, e7, e8, e9, e10⟩ := HX3b.out.below hA6 HX3b.out.1
  obtain ⟨ii, i0, i1, i2, i3, i4, i5, i6, i7, i8, i9, i10⟩ := hX6
  go_wp2_with fail
  generalize w4.alloc (.cells #[.int .i64 x0, .int .i64 x1, .bool x2, .bool x3, .int .i64 x4, .int .i64 x5, .int .i64 x6, .int .i64 x7, .int .i64 x8, .slice qa0 L0.length qk0, .slice qa1 L1.length qk1] 39) = W4 at *
  have HX6 : Hid (CellPacket W4 w4.heap.size x0 x1 x2 x3 x4 x5 x6 x7 x8 (.slice qa0 L0.length qk0) (.slice qa1 L1.length qk1)) := hide ⟨ii, i0, i1, i2, i3, i4, i5, i6, i7, i8, i9, i10⟩
  have HX3c := hide (HX3b.out.next hA6)
  have HW4' := hide (below_next HW4.out hA6)
  have HO4d := hide (HO4c.out.next hA6)
  have HO5b := hide (HO5a.out.next hA6)
  have HO6a := hide (HO6.out.next hA6)
  clear ee e0 e1 e2 e3 e4 e5 e6 e7 e8 e9 e10 i0 i1 i2 i3 i4 i5 i6 i7 i8 i9 i10 hA6 HX3b HW4 HO4c HO5a HO6
  have E1 := hide (eqPacket_walk x0 x1 x2 x3 x4 x5 x6 x7 x8 qa0 L0.length qk0 qa1 L1.length qk1 pa0 pk0 pa1 pk1 L0 L1 W4 rfl (own_arr HO6a.out.own0).1 (own_arr HO4d.out.own0).1 (by omega) rfl (own_arr HO6a.out.own1).1 (own_arr HO4d.out.own1).1 (by omega))
  refine E1.out.mono ?_
  rintro e w5 ⟨rfl, hb5⟩
  have z5 := hb5.size
  have HX6a := hide (HX6.out.next hb5)
  have HX3d := hide (HX3c.out.next hb5)
  have HW5 := hide (below_next HW4'.out hb5)
  have HO4e := hide (HO4d.out.next hb5)
  have HO5c := hide (HO5b.out.next hb5)
  have HO6b := hide (HO6a.out.next hb5)
  clear E1 hb5 HX6 HX3c HW4' HO4d HO5b HO6a
  go_wp2_with fail
  refine (CT.out _ HW5.out).mono ?_
  rintro e w6 ⟨rfl, hOt, hb6⟩
  have z6 := hb6.size
  have HOt := hide hOt
  have HX6b := hide (HX6a.out.next hb6)
  have HX3e := hide (HX3d.out.next hb6)
  have HW6 := hide (below_next HW5.out hb6)
  have HO4f := hide (HO4e.out.next hb6)
  have HO5d := hide (HO5c.out.next hb6)
  have HO6c := hide (HO6b.out.next hb6)
  clear hOt hb6 HX6a HX3d HW5 HO4e HO5c HO6b
  go_wp2_with fail
  refine (CQ.out _ _ _ _ _ HO5d.out HOt.out).mono ?_
  rintro e w7 ⟨rfl, hb7, _⟩
  have z7 := hb7.size
  have HX6c := hide (HX6b.out.next hb7)
  have HX3f := hide (HX3e.out.next hb7)
  have HW7 := hide (below_next HW6.out hb7)
  have HO4g := hide (HO4f.out.next hb7)
  have HO5e := hide (HO5d.out.next hb7)
  have HO6d := hide (HO6c.out.next hb7)
  clear HOt hb7 HX6b HX3e HW6 HO4f HO5d HO6c
  go_wp2_with fail
  refine (CM.out _ _ _ HO5e.out).mono ?_
  rintro e w8 ⟨rfl, _, hg8⟩
  have hb8 : Below W2.heap.size w7 w8 := grown_own HO5e.out hg8 (by omega)
  have hon8 : Only [W2.heap.size] w7 w8 := Only.of_some hg8
  have z8 := hb8.size
  have HX3g := hide (HX3f.out.below hb8 zX3)
  have HX6d := hide (HX6c.out.only hon8 (by intro e; have := List.mem_singleton.1 e; omega))
  have HW8 := hide (HW7.out.trans (hb8.mono (by omega)))
  have HO4h := hide (HO4g.out.below hb8 (fun k hk => Nat.lt_trans (lt4 k hk).2 zX3))
  have HO6e := hide (HO6d.out.only hon8 (fun b hb e => by
    have h1 := (lt6 b hb).1
    have h2 := List.mem_singleton.1 e
    omega))
  clear hg8 hb8 hon8 HX3f HX6c HW7 HO4g HO6d HO5e CM CQ
  obtain ⟨ee, e0, e1, e2, e3, e4, e5, e6, e7, e8, e9, e10⟩ := HX3g.out
  obtain ⟨ii', i0, i1, i2, i3, i4, i5, i6, i7, i8, i9, i10⟩ := HX6d.out
  have E2 := hide (eqPacket_walk x0 x1 x2 x3 x4 x5 x6 x7 x8 qa0 L0.length qk0 qa1 L1.length qk1 pa0 pk0 pa1 pk1 L0 L1 w8 rfl (own_arr HO6e.out.own0).1 (own_arr HO4h.out.own0).1 (by omega) rfl (own_arr HO6e.out.own1).1 (own_arr HO4h.out.own1).1 (by omega))
  go_wp2_with fail
  refine E2.out.mono ?_
  rintro e w9 ⟨rfl, hb9⟩
  have z9 := hb9.size
  have HX6e := hide (HX6d.out.next hb9)
  have HX3h := hide (HX3g.out.next hb9)
  have HW9 := hide (below_next HW8.out hb9)
  have HO4i := hide (HO4h.out.next hb9)
  have HO6f := hide (HO6e.out.next hb9)
  clear E2 hb9 HX6d HX3g HW8 HO4h HO6e ee e0 e1 e2 e3 e4 e5 e6 e7 e8 e9 e10 ii' i0 i1 i2 i3 i4 i5 i6 i7 i8 i9 i10
  obtain ⟨ii', i0, i1, i2, i3, i4, i5, i6, i7, i8, i9, i10⟩ := HX6e.out
  have M1 := hide (markPacket_walk x0 x1 x2 x3 x4 x5 x6 x7 x8 (.slice qa0 L0.length qk0) (.slice qa1 L1.length qk1) L0 L1 1 w9 _ HO6f.out.own0 (by omega) _ HO6f.out.own1 (by omega) HO6f.out.apart01 (by omega))
  go_wp2_with fail
  refine M1.out.mono ?_
  rintro e w10 ⟨rfl, om0, om1, hg10⟩
  have hAm : AnsPacket w10 _ qa0 qa1 qk0 qk1 L0.length L1.length (marks (1) L0.length) (marks (1 + L0.length) L1.length) := ⟨om0, om1, HO6f.out.apart01⟩
  have hg10' : Only (rowsPacket qa0 qa1 qk0 qk1 L0.length L1.length) w9 w10 := hg10
  have hb10 : Below w3.heap.size w9 w10 := hg10'.below (fun b hb => (lt6 b hb).1) (by omega)
  have z10 := hb10.size
  have HM := hide hAm
  have HX3i := hide (HX3h.out.below hb10 (by omega))
  have HX6f := hide (HX6e.out.only hg10' (fun hb => by have := (lt6 _ hb).2; omega))
  have HW10 := hide (HW9.out.trans (hb10.mono (by omega)))
  have HO4j := hide (HO4i.out.below hb10 (fun k hk => by have := (lt4 k hk).2; omega))
  clear M1 om0 om1 hAm hg10 hg10' hb10 HX3h HX6e HW9 HO4i HO6f ii' i0 i1 i2 i3 i4 i5 i6 i7 i8 i9 i10
  obtain ⟨ii', i0, i1, i2, i3, i4, i5, i6, i7, i8, i9, i10⟩ := HX6f.out
  have D1 := hide (heldPacket_walk x0 x1 x2 x3 x4 x5 x6 x7 x8 qa0 L0.length qk0 qa1 L1.length qk1 1 w10 (own_arr HM.out.own0).1 (by omega) (own_arr HM.out.own1).1 (by omega) (by omega))
  go_wp2_with fail
  refine D1.out.mono ?_
  rintro e w11 ⟨rfl, hb11⟩
  have z11 := hb11.size
  have HX6g := hide (HX6f.out.next hb11)
  have HX3j := hide (HX3i.out.next hb11)
  have HW11 := hide (below_next HW10.out hb11)
  have HO4k := hide (HO4j.out.next hb11)
  have HM11 := hide (HM.out.next hb11)
  clear D1 hb11 HX6f HX3i HW10 HO4j HM ii' i0 i1 i2 i3 i4 i5 i6 i7 i8 i9 i10
  go_wp2_with fail
  refine (CT.out _ HW11.out).mono ?_
  rintro e w12 ⟨rfl, hO12, hb12⟩
  have HX6h := hide (HX6g.out.next hb12)
  have HX3k := hide (HX3j.out.next hb12)
  have HW12 := hide (below_next HW11.out hb12)
  have HO4l := hide (HO4k.out.next hb12)
  have HM12 := hide (HM11.out.next hb12)
  clear hb12 HX6g HX3j HW11 HO4k HM11
  go_wp2_with fail
  refine (CI.out _ _ _ HW12.out hO12).mono ?_
  rintro e w13 ⟨t0, t1, rfl, o0, o1, d01, hb13⟩
  obtain ⟨ra0, rk0, rfl, _⟩ := own_slice o0
  obtain ⟨ra1, rk1, rfl, _⟩ := own_slice o1
  have hAr : AnsPacket w13 _ ra0 ra1 rk0 rk1 L0.length L1.length L0 L1 := ⟨o0, o1, d01⟩
  clear o0 o1 d01
  have HX6i := hide (HX6h.out.next hb13)
  have HX3l := hide (HX3k.out.next hb13)
  have HW13 := hide (below_next HW12.out hb13)
  have HO4m := hide (HO4l.out.next hb13)
  have HM13 := hide (HM12.out.next hb13)
  have HO13 := hide hAr
  have hXa := CellPacket.start w13 x0 x1 x2 x3 x4 x5 x6 x7 x8 (.slice ra0 L0.length rk0) (.slice ra1 L1.length rk1) 39
  have hAa := (Below.refl w13.heap.size w13).alloc (Nat.le_refl _) (.cells #[.int .i64 x0, .int .i64 x1, .bool x2, .bool x3, .int .i64 x4, .int .i64 x5, .int .i64 x6, .int .i64 x7, .int .i64 x8, .slice ra0 L0.length rk0, .slice ra1 L1.length rk1] 39)
  clear hO12 hAr hb13 HX6h HX3k HW12 HO4l HM12
  obtain ⟨ee, e0, e1, e2, e3, e4, e5, e6, e7, e8, e9, e10⟩ := HX3l.out.below hAa HX3l.out.1
  obtain ⟨ii', i0, i1, i2, i3, i4, i5, i6, i7, i8, i9, i10⟩ := hXa
  go_wp2_with fail
  generalize w13.alloc (.cells #[.int .i64 x0, .int .i64 x1, .bool x2, .bool x3, .int .i64 x4, .int .i64 x5, .int .i64 x6, .int .i64 x7, .int .i64 x8, .slice ra0 L0.length rk0, .slice ra1 L1.length rk1] 39) = W13 at *
  have HX6j := hide (HX6i.out.next hAa)
  have HWa := hide (below_next HW13.out hAa)
  have HO4n := hide (HO4m.out.next hAa)
  have HMa := hide (HM13.out.next hAa)
  have HO13a := hide (HO13.out.next hAa)
  clear hAa HX6i HX3l HW13 HO4m HM13 HO13 ee e0 e1 e2 e3 e4 e5 e6 e7 e8 e9 e10 i0 i1 i2 i3 i4 i5 i6 i7 i8 i9 i10
  have E3 := hide (eqPacket_walk x0 x1 x2 x3 x4 x5 x6 x7 x8 ra0 L0.length rk0 ra1 L1.length rk1 pa0 pk0 pa1 pk1 L0 L1 W13 rfl (own_arr HO13a.out.own0).1 (own_arr HO4n.out.own0).1 (by omega) rfl (own_arr HO13a.out.own1).1 (own_arr HO4n.out.own1).1 (by omega))
  refine E3.out.mono ?_
  rintro e w14 ⟨rfl, hb14⟩
  have HX6k := hide (HX6j.out.next hb14)
  have HW14 := hide (below_next HWa.out hb14)
  have HM14 := hide (HMa.out.next hb14)
  clear E3 hb14 HX6j HWa HO4n HMa HO13a
  obtain ⟨ii'', i0, i1, i2, i3, i4, i5, i6, i7, i8, i9, i10⟩ := HX6k.out
  have D2 := hide (heldPacket_walk x0 x1 x2 x3 x4 x5 x6 x7 x8 qa0 L0.length qk0 qa1 L1.length qk1 1 w14 (own_arr HM14.out.own0).1 (by omega) (own_arr HM14.out.own1).1 (by omega) (by omega))
  go_wp2_with fail
  refine D2.out.mono ?_
  rintro e w15 ⟨rfl, hb15⟩
  go_wp2_with fail
  go_ret
  exact ⟨rfl, below_next HW14.out hb15⟩
end Go.Proofs.YtakoagfeiolkjaaDoor
