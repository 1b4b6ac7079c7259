/-
At every input the law FnExactEncodeFrame of the landed program answers true, and its arguments read afterwards as before.
Condition: the package-level tables that the card lists are as the program lays them (the card ties them to the text, within the pruned copy).
-/
import Derived.Test.YthoinddlnmailaaDoorRows
import Derived.WalkKit
import Derived.ProofKit
import Derived.OpenShut
import Derived.Test.YthoinddlnmailaaDoorEnc
import Derived.ShutString
import Derived.ChangeOld
import Derived.Below
import Derived.Test.YthoinddlnmailaaDoorCards
import Derived.Test.YthoinddlnmailaaDoorTie
import Derived.Lib.LaidTab
import Derived.Stop.LaidErr
import Derived.LaidMore
import Derived.SevenTiedAt
import Derived.LaidLaws
import Derived.LaidHandle
import Derived.Lib.SmallJoins
namespace Go.Proofs.YthoinddlnmailaaDoor
open Go.ChangeShapes Go.WideShapes Go.ChangeAt Go.RowKit
set_option linter.unusedVariables false
set_option maxRecDepth 100000
/-- What the walk is told of a slice of integers that came in: nil, or a row of 'cap' cells, the first 'len' of them its elements. -/
def IsRow (k : IntKind) (w : World) (a : Option Addr) (len cap : Nat) (zs : List Int) : Prop :=
  (a = none ∧ len = 0 ∧ cap = 0 ∧ zs = []) ∨
  ∃ x, a = some x ∧ len ≤ cap ∧ cap ≤ maxLen ∧ zs.length = cap ∧ (∀ i, i < zs.length → w.cell? (x.add i) = some (.int k (zs.getD i 0))) ∧ ∀ n ∈ zs, (Lit.int k n).wf = true
theorem cell_lt {w : World} {b o : Nat} {v : Value} (h : w.cell? ⟨b, o, none⟩ = some v) : b < w.heap.size := by
  by_cases hb : b < w.heap.size
  · exact hb
  · exfalso
    unfold World.cell? at h
    simp [Array.getElem?_eq_none (Nat.le_of_not_lt hb)] at h
theorem IsRow.arr {w : World} {a : Option Addr} {len cap : Nat} {zs : List Int} (h : IsRow .u8 w a len cap zs) : ∃ ys : List Int, ys.length = len ∧ Arr w a ys := by
  rcases h with ⟨rfl, rfl, rfl, rfl⟩ | ⟨x, rfl, hl, hm, hz, hcell, hwz⟩
  · exact ⟨[], rfl, by simp, fun j hj => by simp at hj⟩
  · refine ⟨zs.take len, by simp; omega, ?_, ?_⟩
    · intro z hz'
      have := hwz z (List.mem_of_mem_take hz')
      simpa [Lit.wf, IntKind.min, IntKind.max, IntKind.signed, IntKind.bits] using this
    · intro j hj
      have hj' : j < len := by simp at hj; omega
      obtain ⟨b, off, rfl, hc⟩ := ints_at hcell (by omega)
      have h1 := hc j (by omega)
      refine ⟨b, off, rfl, cell_lt h1, ?_⟩
      rw [h1, List.getD_eq_getElem?_getD, List.getD_eq_getElem?_getD, List.getElem?_take, if_pos hj']

set_option maxHeartbeats 8000000 in
set_option maxRecDepth 100000 in
theorem walkEncodeFrame0 (d s t : Int) (a : Option Addr) (n cap : Nat) (zs : List Int) (w : World) (hn : zs.length = n) (ha : Arr w a zs) (hm0 : n ≤ 9223372036854775807) (he : ErrT w) :
    Calls Tryd.prog 8 #[.agg #[.int .i64 d, .int .i64 s, .int .i64 t, .slice a n cap]] w fun e w' => e = .returned (.bool true) ∧ Below w.heap.size w w' := by
  have HE := hide he
  clear he
  have HB := hide (BoxF.start w d s t (.slice a n cap) 58)
  have HZ := hide (fun w => szFrame_walk d s t a n cap w hm0)
  by_cases hbig : 1048576 < (n : Int)
  · rw [if_pos hbig] at HZ
    clear hn ha
    go_enter Tryd.func8, Tryd.ntmps8
    go_wp2_with fail
    refine (HZ.out _).mono ?_
    rintro e w1 ⟨rfl, hb1⟩
    have hB1 := HB.out.next hb1
    go_wp2_with fail
    go_ret
    exact ⟨rfl, hB1.1⟩
  · rw [if_neg hbig] at HZ
    have hm : n ≤ 1048576 := by omega
    have CT := hide (fun W (hb : Below w.heap.size w W) => toFrame_walk d s t a n cap zs W hn (ha.below hb (Nat.le_refl _)) hm)
    have CS := hide (fun W g B (h : OwnB W B (.slice (some ⟨g, 0, none⟩) n n) zs) => specEnc_walk d s t (some ⟨g, 0, none⟩) n n zs W hn (own_arr h).1 hm)
    have CI := hide (fun W g B (hb : Below w.heap.size w W) (h : OwnB W B (.slice (some ⟨g, 0, none⟩) n n) zs) => implEnc_walk d s t (some ⟨g, 0, none⟩) n n zs W hn (own_arr h).1 hm (HE.out.below hb (Nat.le_refl _)))
    have CE := hide (fun W g g' B B' (h : OwnB W B (.slice (some ⟨g, 0, none⟩) n n) zs) (h' : OwnB W B' (.slice (some ⟨g', 0, none⟩) n n) zs) => eqFrame_walk d s t (some ⟨g, 0, none⟩) (some ⟨g', 0, none⟩) n n n zs W hn (own_arr h).1 (own_arr h').1 hm)
    have CM := hide (fun W g B (h : OwnB W B (.slice (some ⟨g, 0, none⟩) n n) zs) => markFrame_walk d s t (.slice (some ⟨g, 0, none⟩) n n) B zs 1 W h (by omega) (by omega))
    rw [hn] at CM
    have hlen := frL_len d s t zs
    have HN := hide hn
    clear ha hn HN
    generalize frL d s t zs = L at *
    generalize frC d s t n = C at *
    go_enter Tryd.func8, Tryd.ntmps8
    go_wp2_with fail
    refine (HZ.out _).mono ?_
    rintro e w1 ⟨rfl, hb1⟩
    have HB1 := hide (HB.out.next hb1)
    obtain ⟨_, _, c0, c1, c2, c3⟩ := HB1.out
    clear hb1 HB HZ
    go_wp2_with fail
    refine (CT.out _ HB1.out.1).mono ?_
    rintro e w2 ⟨g1, rfl, hO1, hb2⟩
    have HB2 := hide (HB1.out.next hb2)
    clear c0 c1 c2 c3 HB1 hb2
    go_wp2_with fail
    refine (CS.out _ _ _ hO1).mono ?_
    rintro e w3 ⟨v4, rfl, hO4, hb3⟩
    have HB3 := hide (HB2.out.next hb3)
    obtain ⟨a4, k4, rfl, ha4⟩ := own_slice hO4
    have HO4 := hide hO4
    obtain ⟨_, hsz3, c0, c1, c2, c3⟩ := HB3.out
    have lt4 := own_lt hO4
    clear hO1 hO4 hb3 HB2 ha4 CS
    go_wp2_with fail
    refine (CT.out _ HB3.out.1).mono ?_
    rintro e w4 ⟨g6, rfl, hO6, hb4⟩
    have z4 := hb4.size
    have HB4 := hide (HB3.out.next hb4)
    have HO4b := hide (HO4.out.next hb4)
    have HO6 := hide hO6
    have hX := BoxF.start w4 d s t (.slice (some ⟨g6, 0, none⟩) n n) 32
    clear hO6 c0 c1 c2 c3
    go_wp2_with fail
    generalize w4.alloc (.cells #[.int .i64 d, .int .i64 s, .int .i64 t, .slice (some ⟨g6, 0, none⟩) n n] 32) = W4 at *
    have HX := hide hX
    have hltX := hX.2.1
    have lt6 := own_lt HO6.out
    have HB5 := hide (HB4.out.next hX.1)
    have HO4c := hide (HO4b.out.next hX.1)
    have HO6b := hide (HO6.out.next hX.1)
    clear hX HB4 HO4b HO6 hb4 HB3 HO4
    refine (CI.out _ _ _ HB5.out.1 HO6b.out).mono ?_
    rintro e w5 ⟨v7, rfl, hO7, hb5⟩
    obtain ⟨a7, k7, rfl, ha7⟩ := own_slice hO7
    have HO7 := hide hO7
    have z5 := hb5.size
    have HB6 := hide (HB5.out.next hb5)
    have HO4d := hide (HO4c.out.next hb5)
    have HO6c := hide (HO6b.out.next hb5)
    have HX5 := hide (HX.out.next hb5)
    clear hO7 ha7 hb5 HB5 HO4c HO6b HX
    have E1 := hide (eqByteS_walk a7 a4 L.length k7 k4 L w5 rfl (own_arr HO7.out).1 (own_arr HO4d.out).1 (by omega))
    go_wp2_with fail
    refine E1.out.mono ?_
    rintro e w6 ⟨rfl, hb6, hz6⟩
    have z6 := hb6.size
    have HO7b := hide (HO7.out.next hb6)
    have HB7 := hide (HB6.out.next hb6)
    have HO4e := hide (HO4d.out.next hb6)
    have HO6d := hide (HO6c.out.next hb6)
    have HX6 := hide (HX5.out.next hb6)
    clear E1 hb6 hz6 HO7 HB6 HO4d HO6c HX5
    go_wp2_with fail
    go_region_held3 (fun w' => BoxF w w' d s t (.slice a n cap) ∧ BoxF w4 w' d s t (.slice (some ⟨g6, 0, none⟩) n n)) (first | assumption | exact two_next (by assumption) (by assumption) | exact ⟨HB7.out.drew, HX6.out.drew⟩)
      (first
        | (go_at_call 36; refine (CT.out _ (by assumption : BoxF w _ d s t (.slice a n cap) ∧ BoxF w4 _ d s t (.slice (some ⟨g6, 0, none⟩) n n)).1.1).mono ?_; rintro e w7 ⟨g8, rfl, hO8, hb7⟩; have hO6x := HO6d.out.drew.next hb7)
        | (go_at_call 17; refine (CE.out _ _ _ _ _ hO6x hO8).mono ?_; rintro e w8 ⟨rfl, hb8⟩))
    have hb68 : Below w6.heap.size w6 w8 := (below_drew hb7).trans (hb8.mono hb7.size)
    have z8 := hb68.size
    have HO7c := hide (HO7b.out.next hb68)
    have HB8 := hide (HB7.out.next hb68)
    have HO4f := hide (HO4e.out.next hb68)
    have HO6e := hide (HO6d.out.next hb68)
    have HX8 := hide (HX6.out.next hb68)
    obtain ⟨_, _, c0, c1, c2, c3⟩ := HX8.out
    clear hO8 hO6x hb7 hb8 hb68 HO7b HB7 HO4e HO6d HX6
    go_wp2_with fail
    refine (CM.out _ _ _ HO6e.out).mono ?_
    rintro e w9 ⟨rfl, _, hg9⟩
    have hs8 : w3.heap.size ≤ w8.heap.size := Nat.le_trans (by have := HO6e.out.1.lt g6 rfl; omega) (Nat.le_refl _)
    have hb9 : Below w3.heap.size w8 w9 := grown_own HO6e.out hg9 hs8
    have z9 := hb9.size
    have HB9 := hide (HB8.out.keep hb9 hsz3)
    have HO4g := hide (HO4f.out.below hb9 lt4)
    have hlt6 := lt6 g6 rfl
    have HO7d := hide (HO7c.out.kept hg9 (.inr (by
      intro e
      have := (HO7c.out.1.lt g6 e).1
      omega)))
    clear hb9 hg9 hs8 HB8 HO4f HO7c HX8 HO6e c0 c1 c2 c3 CM CE
    have E2 := hide (eqByteS_walk a7 a4 L.length k7 k4 L w9 rfl (own_arr HO7d.out).1 (own_arr HO4g.out).1 (by omega))
    go_wp2_with fail
    refine E2.out.mono ?_
    rintro e w10 ⟨rfl, hb10, hz10⟩
    have HO7e := hide (HO7d.out.next hb10)
    have HB10 := hide (HB9.out.next hb10)
    have HO4h := hide (HO4g.out.next hb10)
    have hs10 : W4.heap.size ≤ w10.heap.size := by
      have := hb10.size
      omega
    clear E2 hb10 hz10 HO7d HB9 HO4g
    have M1 := hide (markB_walk _ _ L 1 w10 HO7e.out (by omega) (by omega))
    go_wp2_with fail
    refine M1.out.mono ?_
    rintro e w11 ⟨rfl, hO7m, hg11⟩
    have HM := hide hO7m
    have hb11 : Below W4.heap.size w10 w11 := grown_own HO7e.out hg11 hs10
    have hW4 : w3.heap.size ≤ W4.heap.size := by omega
    have HB11 := hide (HB10.out.keep hb11 (by omega))
    have HO4i := hide (HO4h.out.below hb11 (fun k hk => Nat.lt_of_lt_of_le (lt4 k hk) hW4))
    clear M1 hO7m hg11 hb11 HO7e HB10 HO4h hs10
    have D1 := hide (heldB_walk a7 L.length k7 1 w11 (own_arr HM.out).1 (by omega) (by omega))
    go_wp2_with fail
    refine D1.out.mono ?_
    rintro e w12 ⟨rfl, hw12⟩
    rw [hw12]
    clear hw12 D1
    obtain ⟨_, _, c0, c1, c2, c3⟩ := HB11.out
    go_wp2_with fail
    refine (CT.out _ HB11.out.1).mono ?_
    rintro e w13 ⟨g13, rfl, hO13, hb13⟩
    have HB13 := hide (HB11.out.next hb13)
    have HO4j := hide (HO4i.out.next hb13)
    have HM13 := hide (HM.out.next hb13)
    clear c0 c1 c2 c3 HB11 HO4i HM hb13
    go_wp2_with fail
    refine (CI.out _ _ _ HB13.out.1 hO13).mono ?_
    rintro e w14 ⟨v14, rfl, hO14, hb14⟩
    obtain ⟨a14, k14, rfl, ha14⟩ := own_slice hO14
    have HB14 := hide (HB13.out.next hb14)
    have HO4k := hide (HO4j.out.next hb14)
    have HM14 := hide (HM13.out.next hb14)
    clear hO13 HB13 HO4j HM13 hb14
    have E3 := hide (eqByteS_walk a14 a4 L.length k14 k4 L w14 rfl ha14 (own_arr HO4k.out).1 (by omega))
    clear ha14 hO14
    go_wp2_with fail
    refine E3.out.mono ?_
    rintro e w15 ⟨rfl, hb15, hz15⟩
    have HB15 := hide (HB14.out.next hb15)
    have HM15 := hide (HM14.out.next hb15)
    clear E3 hb15 hz15 HB14 HM14 HO4k
    have D2 := hide (heldB_walk a7 L.length k7 1 w15 (own_arr HM15.out).1 (by omega) (by omega))
    go_wp2_with fail
    refine D2.out.mono ?_
    rintro e w16 ⟨rfl, hw16⟩
    rw [hw16]
    go_wp2_with fail
    go_ret
    exact ⟨rfl, HB15.out.1⟩
theorem walkEncodeFrame (d s t : Int) (a : Option Addr) (n cap : Nat) (z0 : List Int) (w : World) (w0 : IsRow .u8 w a n cap z0) (he : ErrT w) :
    Calls Tryd.prog 8 #[.agg #[.int .i64 d, .int .i64 s, .int .i64 t, .slice a n cap]] w fun e w' => e = .returned (.bool true) ∧ Below w.heap.size w w' := by
  obtain ⟨ys, hn, ha⟩ := w0.arr
  refine walkEncodeFrame0 d s t a n cap ys w hn ha ?_ he
  rcases w0 with ⟨_, rfl, _, _⟩ | ⟨x, _, hl, hm, _⟩
  · omega
  · have : cap ≤ 9223372036854775807 := hm
    omega

theorem own : ownKnob Tryd.prog.godebug = none := by kernel_rfl
theorem laidOut : laidOutB Tryd.prog = true := by kernel_rfl
theorem errG : Tryd.prog.globalNamed "errors.errorType" = some 0 := by kernel_rfl
theorem rtT : (Tryd.prog.cutTypes.find? (·.1 == "internal/reflectlite.rtype")).map (·.2) = some 121 := by kernel_rfl
theorem oneErr : ((List.range 162).filter fun t => Tryd.prog.rowNamed t [101, 114, 114, 111, 114]) = [64] := by kernel_rfl
theorem typesN : Tryd.prog.types.size = 162 := by kernel_rfl
/-- What the row's list gives: the variable holds the handle of the type 'error'. -/
theorem errOf {W : World} (h : laidMetH Tryd.prog Rows.fnExactEncodeFrameRow.laid W) : ErrT W := by
  have h' : laidMet Tryd.prog [] W ∧ handlesMet Tryd.prog Rows.fnExactEncodeFrameRow.laid W := h
  obtain ⟨name, u, ty, e1, e2, e3, e4, e5⟩ := h'.2 _ (List.mem_singleton.2 rfl)
  have en : name = [101, 114, 114, 111, 114] := (Option.some.inj e1).symm
  subst en
  obtain rfl := Option.some.inj (rtT.symm.trans e2)
  have hm : ty ∈ (List.range 162).filter fun t => Tryd.prog.rowNamed t [101, 114, 114, 111, 114] := List.mem_filter.2 ⟨List.mem_range.2 (by rw [← typesN]; exact e3), e4⟩
  rw [oneErr] at hm
  obtain rfl := List.mem_singleton.1 hm
  have hh : typeHandle Tryd.prog 64 = .pointer (some ⟨1, 64, none⟩) := by kernel_rfl
  rw [hh] at e5
  have hc : W.cell? ⟨0, 0, none⟩ = some (.iface 121 (.agg #[.pointer (some ⟨1, 64, none⟩)])) := by simpa using World.var?_cell errG e5 0
  exact ⟨World.block_lt_of_cell? W _ hc, hc⟩
theorem door_met (os : Os) (args : Array Value) : laidMetH Tryd.prog Rows.fnExactEncodeFrameRow.laid ((World.doorLaid Tryd.prog 400 os).forCall (fun _ _ => 0) ⟨#[], args, []⟩).memory :=
  laidMetH_of_parts3 (fuel := 8) (laidMet_of_run' 8 (by kernel_rfl) (by kernel_rfl)) (by kernel_rfl) (by kernel_rfl)
set_option maxRecDepth 100000 in
theorem fnExactEncodeFrame_lifted (os : Os) (started : os.Started) (H : Type) (enc : TypeId × Value → H) :
    ReturnsInHanded {} Tryd.checked os 8 .any (fun w args => (Rows.fnExactEncodeFrameSpec.pre enc Tryd.prog Tryd.f8 [] false w args ∧ laidMetH Tryd.prog Rows.fnExactEncodeFrameRow.laid w) ∧ sizedMet enc Tryd.prog Tryd.f8 (OpenSpec.ofChange Rows.fnExactEncodeFrameSpec) false w args) (Rows.fnExactEncodeFrameSpec.post enc Tryd.prog Tryd.f8 false true false false) := by
  refine returnsInHanded_of_change_and (C := Tryd.checked) (X := fun w _ => laidMetH Tryd.prog Rows.fnExactEncodeFrameRow.laid w) (fun _ _ _ hh h => h.of_heap hh) own started (by kernel_rfl) Tryd.func8
    (ChangeSpec.witness_shaped (enc := enc) (C := Tryd.checked) (os := os) (X := fun w _ => laidMetH Tryd.prog Rows.fnExactEncodeFrameRow.laid w) false (World.doorLaid Tryd.prog 400 os) #[.agg #[.int .i64 0, .int .i64 0, .int .i64 0, .slice none 0 0]] 8 rfl (World.shaped_of_RefB (by kernel_rfl) (by kernel_rfl)) (by kernel_rfl) (by kernel_rfl) (by kernel_rfl) (door_met os _)) ?_
  intro W base args ds gs before hval0 hW _ _ hL _
  have hval : ∀ (j : Nat) t v, Tryd.f8.params[j]? = some t → args[j]? = some v → Value.okWide Tryd.prog W .any base t v := hval0
  have hW' := hW
  obtain ⟨p, q, hA0, hV, rfl, hfz, hnd⟩ := hW
  have hA : DataW.TrodAll enc Tryd.prog W 0 (fun _ => true) true Tryd.f8.params.toList args.toList ds p := hA0
  rw [Tryd.params8] at hA hval
  obtain ⟨v0, vs0, d0, ds0, p0, q0, hargs, rfl, rfl, h0, r0⟩ := trodAll_cons hA
  obtain ⟨rfl, rfl, rfl⟩ := trodAll_nil r0
  obtain rfl : args = #[v0] := by cases args; simp_all
  obtain ⟨rfl, rfl⟩ := trodVars_none hV
  have k0 := h0
  have lt0 : ∀ x ∈ p0, x.block < W.heap.size := by obtain ⟨m, hm⟩ := k0; exact DataW.trod_lt m _ _ _ hm
  obtain ⟨c00, c01, c02, c03, y00, y01, y02, y03, m0, rfl, rfl, rfl, hy00, hy01, hy02, hy03⟩ := Go.Joins.open_agg4 Tryd.underlying58 (by kernel_rfl) (by kernel_rfl) (hval 0 58 v0 rfl rfl) h0
  obtain ⟨x0, e00, rfl, wx0⟩ := DataW.trod_int Tryd.underlying2 hy00
  obtain ⟨y0, e01, rfl, wy0⟩ := DataW.trod_int Tryd.underlying2 hy01
  obtain ⟨u0, e02, rfl, wu0⟩ := DataW.trod_int Tryd.underlying2 hy02
  simp at e00 e01 e02
  subst e00 e01 e02
  obtain ⟨a0, len0, cap0, z0, rfl, w0⟩ : ∃ a len cap zs, c03 = .slice a len cap ∧ IsRow .u8 W a len cap zs := by
    rcases open_ints Tryd.underlying22 Tryd.underlying5 (by kernel_rfl) hy03 with ⟨hcs, _⟩ | ⟨x, l, c, zs, hcs, _, hl, hm, hz, _, hcell, hwz⟩
    · simp at hcs
      exact ⟨none, 0, 0, [], hcs, .inl ⟨rfl, rfl, rfl, rfl⟩⟩
    · simp at hcs
      exact ⟨some x, l, c, zs, hcs, .inr ⟨_, rfl, hl, hm, by simpa using hz, hcell, hwz⟩⟩
  clear hA0 hval0
  refine (walkEncodeFrame x0 y0 u0 a0 len0 cap0 z0 W w0 (errOf hL)).mono fun e W' ⟨he, bel⟩ => ?_
  subst he
  exact ⟨_, rfl, _, _, _, [], _, [], hW', trodAll_mk1 (shut_bool Tryd.underlying4 _), (trodAll_cons_mk (Below.trod laidOut (by kernel_rfl) (of_decide_eq_true (by kernel_rfl)) k0 bel lt0) trodAll_mk0), rfl, bel.frame _, fun h => by cases h⟩
theorem fnExactEncodeFrame_said : Rows.FnExactEncodeFrameSaid :=
  OpenClaim.holds_of_wide 8 Tryd.f8 rfl rfl rfl rfl rfl rfl rfl ⟨rfl, rfl, rfl, rfl, rfl⟩ rfl rfl rfl rfl rfl (by kernel_rfl) Tryd.func8 (by kernel_rfl)
    (of_decide_eq_true (by kernel_rfl)) (by unfold Func.isWrapper; first | (rw [if_pos (by decide +kernel)]; kernel_rfl) | (rw [if_neg (by decide +kernel)]; exact ⟨rfl, rfl⟩))
    (fun os started H enc _ => fnExactEncodeFrame_lifted os started H enc)
theorem fnExactEncodeFrame_plain (f : FuncId) (fn : Func) (hf : Tryd.pinned.checked.prog.funcNamed "loop.example/g00003/laws.FnExactEncodeFrame" = some f) (hfn : Tryd.pinned.checked.prog.funcs[f]? = some fn) :
    true = Tryd.pinned.checked.prog.looks [] ∧ ∀ (j : Nat) t, fn.params[j]? = some t → Tryd.pinned.checked.prog.wantsStandIn t = false := by
  obtain rfl : f = 8 := Option.some.inj ((show Tryd.prog.funcNamed "loop.example/g00003/laws.FnExactEncodeFrame" = some 8 by kernel_rfl).symm.trans hf) |>.symm
  obtain rfl : fn = Tryd.f8 := (Option.some.inj (Tryd.func8.symm.trans hfn)).symm
  refine ⟨by kernel_rfl, fun j t ht => ?_⟩
  rw [Tryd.params8] at ht
  have hm : t ∈ [58] := by simpa using Array.mem_of_getElem? ht
  have hall : ([58].all fun u => !Tryd.prog.wantsStandIn u) = true := by kernel_rfl
  exact (show Tryd.prog.wantsStandIn t = false by simpa using List.all_eq_true.1 hall t hm)
theorem fnExactEncodeFrame_holds : Rows.FnExactEncodeFrameCardSaid :=
  Claim7.holds_tied_plain_at .later [] _ _ _ _ fnExactEncodeFrame_said (fun _ h => by cases h) (by kernel_rfl) (fun _ h => by cases h) fnExactEncodeFrame_row_tie rfl ⟨rfl, rfl⟩ (by kernel_rfl) rfl fnExactEncodeFrame_plain (by kernel_rfl)
end Go.Proofs.YthoinddlnmailaaDoor
