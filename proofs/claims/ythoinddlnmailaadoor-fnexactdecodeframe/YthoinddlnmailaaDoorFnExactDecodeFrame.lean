/-
At every input the law FnExactDecodeFrame of the landed program answers true, and its arguments read afterwards as before.
Condition: the package-level tables that the card lists are as the program lays them (the card ties them to the text, within the pruned copy).
-/
import Derived.Test.YthoinddlnmailaaDoorRows
import Derived.WalkKit
import Derived.ProofKit
import Derived.OpenShut
import Derived.Test.YthoinddlnmailaaDoorDec
import Derived.ShutString
import Derived.ChangeOld
import Derived.Below
import Derived.Test.YthoinddlnmailaaDoorCards
import Derived.Test.YthoinddlnmailaaDoorTie
import Derived.Lib.LaidTab
import Derived.Stop.LaidErr
import Derived.LaidMore
import Derived.SevenTiedAt
import Derived.LaidLaws
import Derived.LaidHandle
namespace Go.Proofs.YthoinddlnmailaaDoor
open Go.ChangeShapes Go.WideShapes Go.ChangeAt Go.RowKit
set_option linter.unusedVariables false
set_option maxRecDepth 100000
/-- What the walk is told of a slice of integers that came in: nil, or a row of 'cap' cells, the first 'len' of them its elements. -/
def IsRow (k : IntKind) (w : World) (a : Option Addr) (len cap : Nat) (zs : List Int) : Prop :=
  (a = none ∧ len = 0 ∧ cap = 0 ∧ zs = []) ∨
  ∃ x, a = some x ∧ len ≤ cap ∧ cap ≤ maxLen ∧ zs.length = cap ∧ (∀ i, i < zs.length → w.cell? (x.add i) = some (.int k (zs.getD i 0))) ∧ ∀ n ∈ zs, (Lit.int k n).wf = true
theorem cell_lt {w : World} {b o : Nat} {v : Value} (h : w.cell? ⟨b, o, none⟩ = some v) : b < w.heap.size := by
  by_cases hb : b < w.heap.size
  · exact hb
  · exfalso
    unfold World.cell? at h
    simp [Array.getElem?_eq_none (Nat.le_of_not_lt hb)] at h
theorem IsRow.arr {w : World} {a : Option Addr} {len cap : Nat} {zs : List Int} (h : IsRow .u8 w a len cap zs) : ∃ ys : List Int, ys.length = len ∧ Arr w a ys := by
  rcases h with ⟨rfl, rfl, rfl, rfl⟩ | ⟨x, rfl, hl, hm, hz, hcell, hwz⟩
  · exact ⟨[], rfl, by simp, fun j hj => by simp at hj⟩
  · refine ⟨zs.take len, by simp; omega, ?_, ?_⟩
    · intro z hz'
      have := hwz z (List.mem_of_mem_take hz')
      simpa [Lit.wf, IntKind.min, IntKind.max, IntKind.signed, IntKind.bits] using this
    · intro j hj
      have hj' : j < len := by simp at hj; omega
      obtain ⟨b, off, rfl, hc⟩ := ints_at hcell (by omega)
      have h1 := hc j (by omega)
      refine ⟨b, off, rfl, cell_lt h1, ?_⟩
      rw [h1, List.getD_eq_getElem?_getD, List.getD_eq_getElem?_getD, List.getElem?_take, if_pos hj']

set_option maxHeartbeats 8000000 in
set_option maxRecDepth 100000 in
theorem walkDecodeFrame0 (a : Option Addr) (n cap : Nat) (zs : List Int) (w : World) (hn : zs.length = n) (ha : Arr w a zs) (he : ErrT w) :
    Calls Tryd.prog 4 #[.slice a n cap] w fun e w' => e = .returned (.bool true) ∧ Below w.heap.size w w' := by
  have HE := hide he
  clear he
  by_cases hbig : 1048576 < n
  · clear hn ha
    go_enter Tryd.func4, Tryd.ntmps4
    go_wp2
    go_ret
    exact ⟨rfl, Below.refl _ _⟩
  · have hm : n ≤ 1048576 := by omega
    have CT := hide (fun W (hb : Below w.heap.size w W) => toByteS_own a n cap zs W hn (ha.below hb (Nat.le_refl _)) hm)
    have CS := hide (fun W g B (h : OwnB W B (.slice (some ⟨g, 0, none⟩) n n) zs) => specDec_walk (some ⟨g, 0, none⟩) n n zs W hn (own_arr h).1 hm (Nat.le_refl _))
    have CI := hide (fun W g B (hb : Below w.heap.size w W) (h : OwnB W B (.slice (some ⟨g, 0, none⟩) n n) zs) => implDec_walk (some ⟨g, 0, none⟩) n n zs W hn (own_arr h).1 hm (Nat.le_refl _) (HE.out.below hb (Nat.le_refl _)))
    have CQ := hide (fun W g g' B B' (h : OwnB W B (.slice (some ⟨g, 0, none⟩) n n) zs) (h' : OwnB W B' (.slice (some ⟨g', 0, none⟩) n n) zs) => eqByteS_walk (some ⟨g, 0, none⟩) (some ⟨g', 0, none⟩) n n n zs W hn (own_arr h).1 (own_arr h').1 hm)
    have CM := hide (fun W g B (h : OwnB W B (.slice (some ⟨g, 0, none⟩) n n) zs) => markB_walk (.slice (some ⟨g, 0, none⟩) n n) B zs 1 W h (by omega) (by omega))
    rw [hn] at CM
    have hlen := dfP_len zs
    have hbR := Below.refl w.heap.size w
    clear ha hn
    generalize dfP zs = L at *
    generalize dfC zs = C at *
    generalize dfD zs = d at *
    generalize dfS zs = s at *
    generalize dfT zs = t at *
    go_enter Tryd.func4, Tryd.ntmps4
    go_wp2_with fail
    refine (CT.out _ hbR).mono ?_
    rintro e w1 ⟨rfl, hO1, hb1⟩
    go_wp2_with fail
    refine (CS.out _ _ _ hO1).mono ?_
    rintro e w2 ⟨v4, rfl, hO4, hb2⟩
    obtain ⟨a4, k4, rfl, ha4⟩ := own_slice hO4
    have HW2 := hide (below_next hb1 hb2)
    have lt4 := own_lt hO4
    have HO4 := hide hO4
    have z1 := hb1.size
    have z2 := hb2.size
    have hX3 := CellF.start w2 d s t (.slice a4 L.length k4) 32
    have hA3 := (Below.refl w2.heap.size w2).alloc (Nat.le_refl _) (.cells #[.int .i64 d, .int .i64 s, .int .i64 t, .slice a4 L.length k4] 32)
    clear hO1 hO4 hb1 hb2 ha4 hbR CS
    go_wp2_with fail
    generalize w2.alloc (.cells #[.int .i64 d, .int .i64 s, .int .i64 t, .slice a4 L.length k4] 32) = W2 at *
    have HX3 := hide hX3
    have zX3 := hX3.1
    have HW2' := hide (below_next HW2.out hA3)
    have HO4a := hide (HO4.out.next hA3)
    clear hX3 hA3 HW2 HO4
    refine (CT.out _ HW2'.out).mono ?_
    rintro e w3 ⟨rfl, hO5, hb3⟩
    have z3 := hb3.size
    have HO5 := hide hO5
    have HW3 := hide (below_next HW2'.out hb3)
    have HO4b := hide (HO4a.out.next hb3)
    have HX3a := hide (HX3.out.next hb3)
    have lt5 := own_lt hO5 W2.heap.size rfl
    clear hO5 hb3 HW2' HO4a HX3
    go_wp2_with fail
    refine (CI.out _ _ _ HW3.out HO5.out).mono ?_
    rintro e w4 ⟨v6, rfl, hO6, hb4⟩
    obtain ⟨a6, k6, rfl, ha6⟩ := own_slice hO6
    have z4 := hb4.size
    have lt6 := own_lt hO6
    have HO6 := hide hO6
    have HW4 := hide (below_next HW3.out hb4)
    have HO4c := hide (HO4b.out.next hb4)
    have HO5a := hide (HO5.out.next hb4)
    have HX3b := hide (HX3a.out.next hb4)
    have hX6 := CellF.start w4 d s t (.slice a6 L.length k6) 32
    have hA6 := (Below.refl w4.heap.size w4).alloc (Nat.le_refl _) (.cells #[.int .i64 d, .int .i64 s, .int .i64 t, .slice a6 L.length k6] 32)
    clear hO6 hb4 ha6 HW3 HO4b HO5 HX3a
    obtain ⟨e1, e2, e3, e4, e5⟩ := HX3b.out.below hA6 HX3b.out.1
    obtain ⟨i1, i2, i3, i4, i5⟩ := hX6
    go_wp2_with fail
    generalize w4.alloc (.cells #[.int .i64 d, .int .i64 s, .int .i64 t, .slice a6 L.length k6] 32) = W4 at *
    have HX6 : Hid (CellF W4 w4.heap.size d s t (.slice a6 L.length k6)) := hide ⟨i1, i2, i3, i4, i5⟩
    have HX3c := hide (HX3b.out.next hA6)
    have HW4' := hide (below_next HW4.out hA6)
    have HO4d := hide (HO4c.out.next hA6)
    have HO5b := hide (HO5a.out.next hA6)
    have HO6a := hide (HO6.out.next hA6)
    clear e1 e2 e3 e4 e5 i2 i3 i4 i5 hA6 HX3b HW4 HO4c HO5a HO6
    have E1 := hide (eqFrame_walk d s t a6 a4 L.length k6 k4 L W4 rfl (own_arr HO6a.out).1 (own_arr HO4d.out).1 (by omega))
    refine E1.out.mono ?_
    rintro e w5 ⟨rfl, hb5⟩
    have z5 := hb5.size
    have HX6a := hide (HX6.out.next hb5)
    have HX3d := hide (HX3c.out.next hb5)
    have HW5 := hide (below_next HW4'.out hb5)
    have HO4e := hide (HO4d.out.next hb5)
    have HO5c := hide (HO5b.out.next hb5)
    have HO6b := hide (HO6a.out.next hb5)
    clear E1 hb5 HX6 HX3c HW4' HO4d HO5b HO6a
    go_wp2_with fail
    refine (CT.out _ HW5.out).mono ?_
    rintro e w6 ⟨rfl, hOt, hb6⟩
    have z6 := hb6.size
    have HOt := hide hOt
    have HX6b := hide (HX6a.out.next hb6)
    have HX3e := hide (HX3d.out.next hb6)
    have HW6 := hide (below_next HW5.out hb6)
    have HO4f := hide (HO4e.out.next hb6)
    have HO5d := hide (HO5c.out.next hb6)
    have HO6c := hide (HO6b.out.next hb6)
    clear hOt hb6 HX6a HX3d HW5 HO4e HO5c HO6b
    go_wp2_with fail
    refine (CQ.out _ _ _ _ _ HO5d.out HOt.out).mono ?_
    rintro e w7 ⟨rfl, hb7, _⟩
    have z7 := hb7.size
    have HX6c := hide (HX6b.out.next hb7)
    have HX3f := hide (HX3e.out.next hb7)
    have HW7 := hide (below_next HW6.out hb7)
    have HO4g := hide (HO4f.out.next hb7)
    have HO5e := hide (HO5d.out.next hb7)
    have HO6d := hide (HO6c.out.next hb7)
    clear HOt hb7 HX6b HX3e HW6 HO4f HO5d HO6c
    go_wp2_with fail
    refine (CM.out _ _ _ HO5e.out).mono ?_
    rintro e w8 ⟨rfl, _, hg8⟩
    have hb8 : Below W2.heap.size w7 w8 := grown_own HO5e.out hg8 (by omega)
    have z8 := hb8.size
    have HX3g := hide (HX3f.out.below hb8 zX3)
    have HX6d := hide (HX6c.out.kept hg8 (by intro e; have : w4.heap.size = W2.heap.size := Option.some.inj e; omega))
    have HW8 := hide (HW7.out.trans (hb8.mono (by omega)))
    have HO4h := hide (HO4g.out.below hb8 (fun k hk => Nat.lt_trans (lt4 k hk) zX3))
    have HO6e := hide (HO6d.out.kept hg8 (.inr (by
      intro e
      have := (HO6d.out.1.lt W2.heap.size e).1
      omega)))
    clear hg8 hb8 HX3f HX6c HW7 HO4g HO6d HO5e CM CQ
    obtain ⟨e1, e2, e3, e4, e5⟩ := HX3g.out
    obtain ⟨i1', i2, i3, i4, i5⟩ := HX6d.out
    have E2 := hide (eqFrame_walk d s t a6 a4 L.length k6 k4 L w8 rfl (own_arr HO6e.out).1 (own_arr HO4h.out).1 (by omega))
    go_wp2_with fail
    refine E2.out.mono ?_
    rintro e w9 ⟨rfl, hb9⟩
    have z9 := hb9.size
    have HX6e := hide (HX6d.out.next hb9)
    have HX3h := hide (HX3g.out.next hb9)
    have HW9 := hide (below_next HW8.out hb9)
    have HO4i := hide (HO4h.out.next hb9)
    have HO6f := hide (HO6e.out.next hb9)
    clear E2 hb9 HX6d HX3g HW8 HO4h HO6e e1 e2 e3 e4 e5 i1' i2 i3 i4 i5
    obtain ⟨i1', i2, i3, i4, i5⟩ := HX6e.out
    have M1 := hide (markFrame_walk d s t _ _ L 1 w9 HO6f.out (by omega) (by omega))
    go_wp2_with fail
    refine M1.out.mono ?_
    rintro e w10 ⟨rfl, hOm, hg10⟩
    have hb10 : Below w3.heap.size w9 w10 := grown_own HO6f.out hg10 (by omega)
    have z10 := hb10.size
    have HM := hide hOm
    have HX3i := hide (HX3h.out.below hb10 (by omega))
    have HX6f := hide (HX6e.out.kept hg10 (fun e => by have := lt6 _ e.symm; omega))
    have HW10 := hide (HW9.out.trans (hb10.mono (by omega)))
    have HO4j := hide (HO4i.out.below hb10 (fun k hk => by have := lt4 k hk; omega))
    clear M1 hOm hg10 hb10 HX3h HX6e HW9 HO4i HO6f i1' i2 i3 i4 i5
    obtain ⟨i1', i2, i3, i4, i5⟩ := HX6f.out
    have D1 := hide (heldFrame_walk d s t a6 L.length k6 1 w10 (own_arr HM.out).1 (by omega) (by omega))
    go_wp2_with fail
    refine D1.out.mono ?_
    rintro e w11 ⟨rfl, hb11⟩
    have z11 := hb11.size
    have HX6g := hide (HX6f.out.next hb11)
    have HX3j := hide (HX3i.out.next hb11)
    have HW11 := hide (below_next HW10.out hb11)
    have HO4k := hide (HO4j.out.next hb11)
    have HM11 := hide (HM.out.next hb11)
    clear D1 hb11 HX6f HX3i HW10 HO4j HM i1' i2 i3 i4 i5
    go_wp2_with fail
    refine (CT.out _ HW11.out).mono ?_
    rintro e w12 ⟨rfl, hO12, hb12⟩
    have HX6h := hide (HX6g.out.next hb12)
    have HX3k := hide (HX3j.out.next hb12)
    have HW12 := hide (below_next HW11.out hb12)
    have HO4l := hide (HO4k.out.next hb12)
    have HM12 := hide (HM11.out.next hb12)
    clear hb12 HX6g HX3j HW11 HO4k HM11
    go_wp2_with fail
    refine (CI.out _ _ _ HW12.out hO12).mono ?_
    rintro e w13 ⟨v13, rfl, hO13, hb13⟩
    obtain ⟨a13, k13, rfl, ha13⟩ := own_slice hO13
    have HX6i := hide (HX6h.out.next hb13)
    have HX3l := hide (HX3k.out.next hb13)
    have HW13 := hide (below_next HW12.out hb13)
    have HO4m := hide (HO4l.out.next hb13)
    have HM13 := hide (HM12.out.next hb13)
    have HO13 := hide hO13
    have hXa := CellF.start w13 d s t (.slice a13 L.length k13) 32
    have hAa := (Below.refl w13.heap.size w13).alloc (Nat.le_refl _) (.cells #[.int .i64 d, .int .i64 s, .int .i64 t, .slice a13 L.length k13] 32)
    clear hO12 hO13 hb13 ha13 HX6h HX3k HW12 HO4l HM12
    obtain ⟨e1, e2, e3, e4, e5⟩ := HX3l.out.below hAa HX3l.out.1
    obtain ⟨i1', i2, i3, i4, i5⟩ := hXa
    go_wp2_with fail
    generalize w13.alloc (.cells #[.int .i64 d, .int .i64 s, .int .i64 t, .slice a13 L.length k13] 32) = W13 at *
    have HX6j := hide (HX6i.out.next hAa)
    have HWa := hide (below_next HW13.out hAa)
    have HO4n := hide (HO4m.out.next hAa)
    have HMa := hide (HM13.out.next hAa)
    have HO13a := hide (HO13.out.next hAa)
    clear hAa HX6i HX3l HW13 HO4m HM13 HO13 e1 e2 e3 e4 e5 i2 i3 i4 i5
    have E3 := hide (eqFrame_walk d s t a13 a4 L.length k13 k4 L W13 rfl (own_arr HO13a.out).1 (own_arr HO4n.out).1 (by omega))
    refine E3.out.mono ?_
    rintro e w14 ⟨rfl, hb14⟩
    have HX6k := hide (HX6j.out.next hb14)
    have HW14 := hide (below_next HWa.out hb14)
    have HM14 := hide (HMa.out.next hb14)
    clear E3 hb14 HX6j HWa HO4n HMa HO13a
    obtain ⟨i1'', i2, i3, i4, i5⟩ := HX6k.out
    have D2 := hide (heldFrame_walk d s t a6 L.length k6 1 w14 (own_arr HM14.out).1 (by omega) (by omega))
    go_wp2_with fail
    refine D2.out.mono ?_
    rintro e w15 ⟨rfl, hb15⟩
    go_wp2_with fail
    go_ret
    exact ⟨rfl, below_next HW14.out hb15⟩
theorem walkDecodeFrame (a : Option Addr) (n cap : Nat) (z0 : List Int) (w : World) (w0 : IsRow .u8 w a n cap z0) (he : ErrT w) :
    Calls Tryd.prog 4 #[.slice a n cap] w fun e w' => e = .returned (.bool true) ∧ Below w.heap.size w w' := by
  obtain ⟨ys, hn, ha⟩ := w0.arr
  exact walkDecodeFrame0 a n cap ys w hn ha he

theorem own : ownKnob Tryd.prog.godebug = none := by kernel_rfl
theorem laidOut : laidOutB Tryd.prog = true := by kernel_rfl
theorem errG : Tryd.prog.globalNamed "errors.errorType" = some 0 := by kernel_rfl
theorem rtT : (Tryd.prog.cutTypes.find? (·.1 == "internal/reflectlite.rtype")).map (·.2) = some 121 := by kernel_rfl
theorem oneErr : ((List.range 162).filter fun t => Tryd.prog.rowNamed t [101, 114, 114, 111, 114]) = [64] := by kernel_rfl
theorem typesN : Tryd.prog.types.size = 162 := by kernel_rfl
/-- What the row's list gives: the variable holds the handle of the type 'error'. -/
theorem errOf {W : World} (h : laidMetH Tryd.prog Rows.fnExactDecodeFrameRow.laid W) : ErrT W := by
  have h' : laidMet Tryd.prog [] W ∧ handlesMet Tryd.prog Rows.fnExactDecodeFrameRow.laid W := h
  obtain ⟨name, u, ty, e1, e2, e3, e4, e5⟩ := h'.2 _ (List.mem_singleton.2 rfl)
  have en : name = [101, 114, 114, 111, 114] := (Option.some.inj e1).symm
  subst en
  obtain rfl := Option.some.inj (rtT.symm.trans e2)
  have hm : ty ∈ (List.range 162).filter fun t => Tryd.prog.rowNamed t [101, 114, 114, 111, 114] := List.mem_filter.2 ⟨List.mem_range.2 (by rw [← typesN]; exact e3), e4⟩
  rw [oneErr] at hm
  obtain rfl := List.mem_singleton.1 hm
  have hh : typeHandle Tryd.prog 64 = .pointer (some ⟨1, 64, none⟩) := by kernel_rfl
  rw [hh] at e5
  have hc : W.cell? ⟨0, 0, none⟩ = some (.iface 121 (.agg #[.pointer (some ⟨1, 64, none⟩)])) := by simpa using World.var?_cell errG e5 0
  exact ⟨World.block_lt_of_cell? W _ hc, hc⟩
theorem door_met (os : Os) (args : Array Value) : laidMetH Tryd.prog Rows.fnExactDecodeFrameRow.laid ((World.doorLaid Tryd.prog 400 os).forCall (fun _ _ => 0) ⟨#[], args, []⟩).memory :=
  laidMetH_of_parts3 (fuel := 8) (laidMet_of_run' 8 (by kernel_rfl) (by kernel_rfl)) (by kernel_rfl) (by kernel_rfl)
set_option maxRecDepth 100000 in
theorem fnExactDecodeFrame_lifted (os : Os) (started : os.Started) (H : Type) (enc : TypeId × Value → H) :
    ReturnsInHanded {} Tryd.checked os 4 .any (fun w args => (Rows.fnExactDecodeFrameSpec.pre enc Tryd.prog Tryd.f4 [] false w args ∧ laidMetH Tryd.prog Rows.fnExactDecodeFrameRow.laid w) ∧ sizedMet enc Tryd.prog Tryd.f4 (OpenSpec.ofChange Rows.fnExactDecodeFrameSpec) false w args) (Rows.fnExactDecodeFrameSpec.post enc Tryd.prog Tryd.f4 false true false false) := by
  refine returnsInHanded_of_change_and (C := Tryd.checked) (X := fun w _ => laidMetH Tryd.prog Rows.fnExactDecodeFrameRow.laid w) (fun _ _ _ hh h => h.of_heap hh) own started (by kernel_rfl) Tryd.func4
    (ChangeSpec.witness_shaped (enc := enc) (C := Tryd.checked) (os := os) (X := fun w _ => laidMetH Tryd.prog Rows.fnExactDecodeFrameRow.laid w) false (World.doorLaid Tryd.prog 400 os) #[.slice none 0 0] 8 rfl (World.shaped_of_RefB (by kernel_rfl) (by kernel_rfl)) (by kernel_rfl) (by kernel_rfl) (by kernel_rfl) (door_met os _)) ?_
  intro W base args ds gs before hval0 hW _ _ hL _
  have hval : ∀ (j : Nat) t v, Tryd.f4.params[j]? = some t → args[j]? = some v → Value.okWide Tryd.prog W .any base t v := hval0
  have hW' := hW
  obtain ⟨p, q, hA0, hV, rfl, hfz, hnd⟩ := hW
  have hA : DataW.TrodAll enc Tryd.prog W 0 (fun _ => true) true Tryd.f4.params.toList args.toList ds p := hA0
  rw [Tryd.params4] at hA hval
  obtain ⟨v0, vs0, d0, ds0, p0, q0, hargs, rfl, rfl, h0, r0⟩ := trodAll_cons hA
  obtain ⟨rfl, rfl, rfl⟩ := trodAll_nil r0
  obtain rfl : args = #[v0] := by cases args; simp_all
  obtain ⟨rfl, rfl⟩ := trodVars_none hV
  obtain ⟨a0, len0, cap0, rfl⟩ := okWide_slice Tryd.underlying22 (hval 0 22 v0 rfl rfl)
  have k0 := h0
  have lt0 : ∀ x ∈ p0, x.block < W.heap.size := by obtain ⟨m, hm⟩ := k0; exact DataW.trod_lt m _ _ _ hm
  obtain ⟨z0, w0⟩ : ∃ zs, IsRow .u8 W a0 len0 cap0 zs := by
    obtain ⟨fuel, hf⟩ := h0
    rcases open_ints Tryd.underlying22 Tryd.underlying5 (by kernel_rfl) hf with ⟨hcs, _⟩ | ⟨x, l, c, zs, hcs, _, hl, hm, hz, _, hcell, hwz⟩
    · simp [Value.cells] at hcs
      obtain ⟨rfl, rfl, rfl⟩ := hcs
      exact ⟨[], .inl ⟨rfl, rfl, rfl, rfl⟩⟩
    · simp [Value.cells] at hcs
      obtain ⟨rfl, rfl, rfl⟩ := hcs
      exact ⟨zs, .inr ⟨_, rfl, hl, hm, by simpa using hz, hcell, hwz⟩⟩
  clear hA0 hval0
  refine (walkDecodeFrame a0 len0 cap0 z0 W w0 (errOf hL)).mono fun e W' ⟨he, bel⟩ => ?_
  subst he
  exact ⟨_, rfl, _, _, _, [], _, [], hW', trodAll_mk1 (shut_bool Tryd.underlying4 _), (trodAll_cons_mk (Below.trod laidOut (by kernel_rfl) (of_decide_eq_true (by kernel_rfl)) k0 bel lt0) trodAll_mk0), rfl, bel.frame _, fun h => by cases h⟩
theorem fnExactDecodeFrame_said : Rows.FnExactDecodeFrameSaid :=
  OpenClaim.holds_of_wide 4 Tryd.f4 rfl rfl rfl rfl rfl rfl rfl ⟨rfl, rfl, rfl, rfl, rfl⟩ rfl rfl rfl rfl rfl (by kernel_rfl) Tryd.func4 (by kernel_rfl)
    (of_decide_eq_true (by kernel_rfl)) (by unfold Func.isWrapper; first | (rw [if_pos (by decide +kernel)]; kernel_rfl) | (rw [if_neg (by decide +kernel)]; exact ⟨rfl, rfl⟩))
    (fun os started H enc _ => fnExactDecodeFrame_lifted os started H enc)
theorem fnExactDecodeFrame_plain (f : FuncId) (fn : Func) (hf : Tryd.pinned.checked.prog.funcNamed "loop.example/g00003/laws.FnExactDecodeFrame" = some f) (hfn : Tryd.pinned.checked.prog.funcs[f]? = some fn) :
    true = Tryd.pinned.checked.prog.looks [] ∧ ∀ (j : Nat) t, fn.params[j]? = some t → Tryd.pinned.checked.prog.wantsStandIn t = false := by
  obtain rfl : f = 4 := Option.some.inj ((show Tryd.prog.funcNamed "loop.example/g00003/laws.FnExactDecodeFrame" = some 4 by kernel_rfl).symm.trans hf) |>.symm
  obtain rfl : fn = Tryd.f4 := (Option.some.inj (Tryd.func4.symm.trans hfn)).symm
  refine ⟨by kernel_rfl, fun j t ht => ?_⟩
  rw [Tryd.params4] at ht
  have hm : t ∈ [22] := by simpa using Array.mem_of_getElem? ht
  have hall : ([22].all fun u => !Tryd.prog.wantsStandIn u) = true := by kernel_rfl
  exact (show Tryd.prog.wantsStandIn t = false by simpa using List.all_eq_true.1 hall t hm)
theorem fnExactDecodeFrame_holds : Rows.FnExactDecodeFrameCardSaid :=
  Claim7.holds_tied_plain_at .later [] _ _ _ _ fnExactDecodeFrame_said (fun _ h => by cases h) (by kernel_rfl) (fun _ h => by cases h) fnExactDecodeFrame_row_tie rfl ⟨rfl, rfl⟩ (by kernel_rfl) rfl fnExactDecodeFrame_plain (by kernel_rfl)
end Go.Proofs.YthoinddlnmailaaDoor
