/-
At every input the law FnExactDecodeArp of the landed program answers true, and its arguments read afterwards as before.
Condition: the package-level tables that the card lists are as the program lays them (the card ties them to the text, within the pruned copy).
-/
import Derived.Test.YthoinddlnmailaaDoorRows
import Derived.WalkKit
import Derived.ProofKit
import Derived.OpenShut
import Derived.Test.YthoinddlnmailaaDoorDea
import Derived.ShutString
import Derived.ChangeOld
import Derived.Below
import Derived.Test.YthoinddlnmailaaDoorCards
import Derived.Test.YthoinddlnmailaaDoorTie
import Derived.Lib.LaidTab
import Derived.Stop.LaidErr
import Derived.LaidMore
import Derived.SevenTiedAt
import Derived.LaidLaws
import Derived.LaidHandle
namespace Go.Proofs.YthoinddlnmailaaDoor
open Go.ChangeShapes Go.WideShapes Go.ChangeAt Go.RowKit
set_option linter.unusedVariables false
set_option maxRecDepth 100000
/-- What the walk is told of a slice of integers that came in: nil, or a row of 'cap' cells, the first 'len' of them its elements. -/
def IsRow (k : IntKind) (w : World) (a : Option Addr) (len cap : Nat) (zs : List Int) : Prop :=
  (a = none ∧ len = 0 ∧ cap = 0 ∧ zs = []) ∨
  ∃ x, a = some x ∧ len ≤ cap ∧ cap ≤ maxLen ∧ zs.length = cap ∧ (∀ i, i < zs.length → w.cell? (x.add i) = some (.int k (zs.getD i 0))) ∧ ∀ n ∈ zs, (Lit.int k n).wf = true
theorem cell_lt {w : World} {b o : Nat} {v : Value} (h : w.cell? ⟨b, o, none⟩ = some v) : b < w.heap.size := by
  by_cases hb : b < w.heap.size
  · exact hb
  · exfalso
    unfold World.cell? at h
    simp [Array.getElem?_eq_none (Nat.le_of_not_lt hb)] at h
theorem IsRow.arr {w : World} {a : Option Addr} {len cap : Nat} {zs : List Int} (h : IsRow .u8 w a len cap zs) : ∃ ys : List Int, ys.length = len ∧ Arr w a ys := by
  rcases h with ⟨rfl, rfl, rfl, rfl⟩ | ⟨x, rfl, hl, hm, hz, hcell, hwz⟩
  · exact ⟨[], rfl, by simp, fun j hj => by simp at hj⟩
  · refine ⟨zs.take len, by simp; omega, ?_, ?_⟩
    · intro z hz'
      have := hwz z (List.mem_of_mem_take hz')
      simpa [Lit.wf, IntKind.min, IntKind.max, IntKind.signed, IntKind.bits] using this
    · intro j hj
      have hj' : j < len := by simp at hj; omega
      obtain ⟨b, off, rfl, hc⟩ := ints_at hcell (by omega)
      have h1 := hc j (by omega)
      refine ⟨b, off, rfl, cell_lt h1, ?_⟩
      rw [h1, List.getD_eq_getElem?_getD, List.getD_eq_getElem?_getD, List.getElem?_take, if_pos hj']

set_option maxHeartbeats 1000000 in
theorem eqArp_walk (z0 z1 z2 z3 z4 : Int) (w : World) :
    Calls Tryd.prog 24 #[.agg #[.int .i64 z0, .int .i64 z1, .int .i64 z2, .int .i64 z3, .int .i64 z4], .agg #[.int .i64 z0, .int .i64 z1, .int .i64 z2, .int .i64 z3, .int .i64 z4]] w fun e w' => e = .returned (.bool true) ∧ Below w.heap.size w w' := by
  have hB := ((Below.refl w.heap.size w).alloc (Nat.le_refl _) (.cells #[.int .i64 z0, .int .i64 z1, .int .i64 z2, .int .i64 z3, .int .i64 z4] 44)).alloc (by simp) (.cells #[.int .i64 z0, .int .i64 z1, .int .i64 z2, .int .i64 z3, .int .i64 z4] 44)
  go_enter Tryd.func24, Tryd.ntmps24
  go_wp2_with fail
  go_ret
  exact ⟨rfl, hB⟩

set_option maxHeartbeats 8000000 in
theorem walkDecodeArp0 (a : Option Addr) (n cap : Nat) (zs : List Int) (w : World) (hn : zs.length = n) (ha : Arr w a zs) (he : ErrT w) :
    Calls Tryd.prog 5 #[.slice a n cap] w fun e w' => e = .returned (.bool true) ∧ Below w.heap.size w w' := by
  have HE := hide he
  clear he
  by_cases hbig : 1048576 < n
  · clear hn ha
    go_enter Tryd.func5, Tryd.ntmps5
    go_wp2
    go_ret
    exact ⟨rfl, Below.refl _ _⟩
  · have hm : n ≤ 1048576 := by omega
    have CT := hide (fun W (hb : Below w.heap.size w W) => toByteS_own a n cap zs W hn (ha.below hb (Nat.le_refl _)) hm)
    have CS := hide (fun W g B (h : OwnB W B (.slice (some ⟨g, 0, none⟩) n n) zs) => specDecA_walk (some ⟨g, 0, none⟩) n n zs W hn (own_arr h).1 hm (Nat.le_refl _))
    have CI := hide (fun W g B (hb : Below w.heap.size w W) (h : OwnB W B (.slice (some ⟨g, 0, none⟩) n n) zs) => implDecA_walk (some ⟨g, 0, none⟩) n n zs W hn (own_arr h).1 hm (Nat.le_refl _) (HE.out.below hb (Nat.le_refl _)))
    have CQ := hide (fun W g g' B B' (h : OwnB W B (.slice (some ⟨g, 0, none⟩) n n) zs) (h' : OwnB W B' (.slice (some ⟨g', 0, none⟩) n n) zs) => eqByteS_walk (some ⟨g, 0, none⟩) (some ⟨g', 0, none⟩) n n n zs W hn (own_arr h).1 (own_arr h').1 hm)
    have CM := hide (fun W g B (h : OwnB W B (.slice (some ⟨g, 0, none⟩) n n) zs) => markB_walk (.slice (some ⟨g, 0, none⟩) n n) B zs 1 W h (by omega) (by omega))
    rw [hn] at CM
    have hbR := Below.refl w.heap.size w
    clear ha hn
    generalize (if daC zs = 0 then daO zs else 0) = x0 at *
    generalize (if daC zs = 0 then daM zs else 0) = x1 at *
    generalize (if daC zs = 0 then daS zs else 0) = x2 at *
    generalize (if daC zs = 0 then daU zs else 0) = x3 at *
    generalize (if daC zs = 0 then daT zs else 0) = x4 at *
    generalize daC zs = C at *
    go_enter Tryd.func5, Tryd.ntmps5
    go_wp2_with fail
    refine (CT.out _ hbR).mono ?_
    rintro e w1 ⟨rfl, hO1, hb1⟩
    go_wp2_with fail
    refine (CS.out _ _ _ hO1).mono ?_
    rintro e w2 ⟨rfl, hb2⟩
    have HW2 := hide (below_next hb1 hb2)
    have hA2 := (Below.refl w2.heap.size w2).alloc (Nat.le_refl _) (.cells #[.int .i64 x0, .int .i64 x1, .int .i64 x2, .int .i64 x3, .int .i64 x4] 44)
    have HX2 : Hid (ArpAt (w2.alloc (.cells #[.int .i64 x0, .int .i64 x1, .int .i64 x2, .int .i64 x3, .int .i64 x4] 44)) w2.heap.size x0 x1 x2 x3 x4) := hide (heap_alloc_new _ _)
    have HW2' := hide (below_next HW2.out hA2)
    clear hO1 hb1 hb2 hbR CS HW2 hA2
    go_wp2_with fail
    generalize w2.alloc (.cells #[.int .i64 x0, .int .i64 x1, .int .i64 x2, .int .i64 x3, .int .i64 x4] 44) = W2 at *
    refine (CT.out _ HW2'.out).mono ?_
    rintro e w3 ⟨rfl, hO3, hb3⟩
    have HO3 := hide hO3
    have HW3 := hide (below_next HW2'.out hb3)
    have HX3 := hide (HX2.out.next hb3)
    clear hO3 hb3 HW2' HX2
    go_wp2_with fail
    refine (CI.out _ _ _ HW3.out HO3.out).mono ?_
    rintro e w4 ⟨rfl, hb4⟩
    have HW4 := hide (below_next HW3.out hb4)
    have HX4 := hide (HX3.out.next hb4)
    have HO4 := hide (HO3.out.next hb4)
    have hA4 := (Below.refl w4.heap.size w4).alloc (Nat.le_refl _) (.cells #[.int .i64 x0, .int .i64 x1, .int .i64 x2, .int .i64 x3, .int .i64 x4] 44)
    have HY4 : Hid (ArpAt (w4.alloc (.cells #[.int .i64 x0, .int .i64 x1, .int .i64 x2, .int .i64 x3, .int .i64 x4] 44)) w4.heap.size x0 x1 x2 x3 x4) := hide (heap_alloc_new _ _)
    have HX4a := hide (HX4.out.next hA4)
    have HW4a := hide (below_next HW4.out hA4)
    have HO4a := hide (HO4.out.next hA4)
    obtain ⟨e0, e1, e2, e3, e4, ef⟩ := HX4a.out.cells
    obtain ⟨i0, i1, i2, i3, i4, jf⟩ := HY4.out.cells
    clear hb4 hA4 HW3 HX3 HO3 HW4 HX4 HO4
    go_wp2_with fail
    generalize w4.alloc (.cells #[.int .i64 x0, .int .i64 x1, .int .i64 x2, .int .i64 x3, .int .i64 x4] 44) = W4 at *
    refine (eqArp_walk x0 x1 x2 x3 x4 W4).mono ?_
    rintro e w5 ⟨rfl, hb5⟩
    have HW5 := hide (below_next HW4a.out hb5)
    have HO5 := hide (HO4a.out.next hb5)
    clear hb5 HW4a HO4a e0 e1 e2 e3 e4 ef i0 i1 i2 i3 i4 jf HX4a HY4
    go_wp2_with fail
    refine (CT.out _ HW5.out).mono ?_
    rintro e w6 ⟨rfl, hO6, hb6⟩
    have HW6 := hide (below_next HW5.out hb6)
    have HO6 := hide (HO5.out.next hb6)
    clear hb6 HW5 HO5
    go_wp2_with fail
    refine (CQ.out _ _ _ _ _ HO6.out hO6).mono ?_
    rintro e w7 ⟨rfl, hb7, _⟩
    have HW7 := hide (below_next HW6.out hb7)
    clear hb7 hO6 HW6 HO6
    go_wp2_with fail
    go_ret
    exact ⟨rfl, HW7.out⟩
theorem walkDecodeArp (a : Option Addr) (n cap : Nat) (z0 : List Int) (w : World) (w0 : IsRow .u8 w a n cap z0) (he : ErrT w) :
    Calls Tryd.prog 5 #[.slice a n cap] w fun e w' => e = .returned (.bool true) ∧ Below w.heap.size w w' := by
  obtain ⟨ys, hn, ha⟩ := w0.arr
  exact walkDecodeArp0 a n cap ys w hn ha he

theorem own : ownKnob Tryd.prog.godebug = none := by kernel_rfl
theorem laidOut : laidOutB Tryd.prog = true := by kernel_rfl
theorem errG : Tryd.prog.globalNamed "errors.errorType" = some 0 := by kernel_rfl
theorem rtT : (Tryd.prog.cutTypes.find? (·.1 == "internal/reflectlite.rtype")).map (·.2) = some 121 := by kernel_rfl
theorem oneErr : ((List.range 162).filter fun t => Tryd.prog.rowNamed t [101, 114, 114, 111, 114]) = [64] := by kernel_rfl
theorem typesN : Tryd.prog.types.size = 162 := by kernel_rfl
/-- What the row's list gives: the variable holds the handle of the type 'error'. -/
theorem errOf {W : World} (h : laidMetH Tryd.prog Rows.fnExactDecodeArpRow.laid W) : ErrT W := by
  have h' : laidMet Tryd.prog [] W ∧ handlesMet Tryd.prog Rows.fnExactDecodeArpRow.laid W := h
  obtain ⟨name, u, ty, e1, e2, e3, e4, e5⟩ := h'.2 _ (List.mem_singleton.2 rfl)
  have en : name = [101, 114, 114, 111, 114] := (Option.some.inj e1).symm
  subst en
  obtain rfl := Option.some.inj (rtT.symm.trans e2)
  have hm : ty ∈ (List.range 162).filter fun t => Tryd.prog.rowNamed t [101, 114, 114, 111, 114] := List.mem_filter.2 ⟨List.mem_range.2 (by rw [← typesN]; exact e3), e4⟩
  rw [oneErr] at hm
  obtain rfl := List.mem_singleton.1 hm
  have hh : typeHandle Tryd.prog 64 = .pointer (some ⟨1, 64, none⟩) := by kernel_rfl
  rw [hh] at e5
  have hc : W.cell? ⟨0, 0, none⟩ = some (.iface 121 (.agg #[.pointer (some ⟨1, 64, none⟩)])) := by simpa using World.var?_cell errG e5 0
  exact ⟨World.block_lt_of_cell? W _ hc, hc⟩
theorem door_met (os : Os) (args : Array Value) : laidMetH Tryd.prog Rows.fnExactDecodeArpRow.laid ((World.doorLaid Tryd.prog 400 os).forCall (fun _ _ => 0) ⟨#[], args, []⟩).memory :=
  laidMetH_of_parts3 (fuel := 8) (laidMet_of_run' 8 (by kernel_rfl) (by kernel_rfl)) (by kernel_rfl) (by kernel_rfl)
set_option maxRecDepth 100000 in
theorem fnExactDecodeArp_lifted (os : Os) (started : os.Started) (H : Type) (enc : TypeId × Value → H) :
    ReturnsInHanded {} Tryd.checked os 5 .any (fun w args => (Rows.fnExactDecodeArpSpec.pre enc Tryd.prog Tryd.f5 [] false w args ∧ laidMetH Tryd.prog Rows.fnExactDecodeArpRow.laid w) ∧ sizedMet enc Tryd.prog Tryd.f5 (OpenSpec.ofChange Rows.fnExactDecodeArpSpec) false w args) (Rows.fnExactDecodeArpSpec.post enc Tryd.prog Tryd.f5 false true false false) := by
  refine returnsInHanded_of_change_and (C := Tryd.checked) (X := fun w _ => laidMetH Tryd.prog Rows.fnExactDecodeArpRow.laid w) (fun _ _ _ hh h => h.of_heap hh) own started (by kernel_rfl) Tryd.func5
    (ChangeSpec.witness_shaped (enc := enc) (C := Tryd.checked) (os := os) (X := fun w _ => laidMetH Tryd.prog Rows.fnExactDecodeArpRow.laid w) false (World.doorLaid Tryd.prog 400 os) #[.slice none 0 0] 8 rfl (World.shaped_of_RefB (by kernel_rfl) (by kernel_rfl)) (by kernel_rfl) (by kernel_rfl) (by kernel_rfl) (door_met os _)) ?_
  intro W base args ds gs before hval0 hW _ _ hL _
  have hval : ∀ (j : Nat) t v, Tryd.f5.params[j]? = some t → args[j]? = some v → Value.okWide Tryd.prog W .any base t v := hval0
  have hW' := hW
  obtain ⟨p, q, hA0, hV, rfl, hfz, hnd⟩ := hW
  have hA : DataW.TrodAll enc Tryd.prog W 0 (fun _ => true) true Tryd.f5.params.toList args.toList ds p := hA0
  rw [Tryd.params5] at hA hval
  obtain ⟨v0, vs0, d0, ds0, p0, q0, hargs, rfl, rfl, h0, r0⟩ := trodAll_cons hA
  obtain ⟨rfl, rfl, rfl⟩ := trodAll_nil r0
  obtain rfl : args = #[v0] := by cases args; simp_all
  obtain ⟨rfl, rfl⟩ := trodVars_none hV
  obtain ⟨a0, len0, cap0, rfl⟩ := okWide_slice Tryd.underlying22 (hval 0 22 v0 rfl rfl)
  have k0 := h0
  have lt0 : ∀ x ∈ p0, x.block < W.heap.size := by obtain ⟨m, hm⟩ := k0; exact DataW.trod_lt m _ _ _ hm
  obtain ⟨z0, w0⟩ : ∃ zs, IsRow .u8 W a0 len0 cap0 zs := by
    obtain ⟨fuel, hf⟩ := h0
    rcases open_ints Tryd.underlying22 Tryd.underlying5 (by kernel_rfl) hf with ⟨hcs, _⟩ | ⟨x, l, c, zs, hcs, _, hl, hm, hz, _, hcell, hwz⟩
    · simp [Value.cells] at hcs
      obtain ⟨rfl, rfl, rfl⟩ := hcs
      exact ⟨[], .inl ⟨rfl, rfl, rfl, rfl⟩⟩
    · simp [Value.cells] at hcs
      obtain ⟨rfl, rfl, rfl⟩ := hcs
      exact ⟨zs, .inr ⟨_, rfl, hl, hm, by simpa using hz, hcell, hwz⟩⟩
  clear hA0 hval0
  refine (walkDecodeArp a0 len0 cap0 z0 W w0 (errOf hL)).mono fun e W' ⟨he, bel⟩ => ?_
  subst he
  exact ⟨_, rfl, _, _, _, [], _, [], hW', trodAll_mk1 (shut_bool Tryd.underlying4 _), (trodAll_cons_mk (Below.trod laidOut (by kernel_rfl) (of_decide_eq_true (by kernel_rfl)) k0 bel lt0) trodAll_mk0), rfl, bel.frame _, fun h => by cases h⟩
theorem fnExactDecodeArp_said : Rows.FnExactDecodeArpSaid :=
  OpenClaim.holds_of_wide 5 Tryd.f5 rfl rfl rfl rfl rfl rfl rfl ⟨rfl, rfl, rfl, rfl, rfl⟩ rfl rfl rfl rfl rfl (by kernel_rfl) Tryd.func5 (by kernel_rfl)
    (of_decide_eq_true (by kernel_rfl)) (by unfold Func.isWrapper; first | (rw [if_pos (by decide +kernel)]; kernel_rfl) | (rw [if_neg (by decide +kernel)]; exact ⟨rfl, rfl⟩))
    (fun os started H enc _ => fnExactDecodeArp_lifted os started H enc)
theorem fnExactDecodeArp_plain (f : FuncId) (fn : Func) (hf : Tryd.pinned.checked.prog.funcNamed "loop.example/g00003/laws.FnExactDecodeArp" = some f) (hfn : Tryd.pinned.checked.prog.funcs[f]? = some fn) :
    true = Tryd.pinned.checked.prog.looks [] ∧ ∀ (j : Nat) t, fn.params[j]? = some t → Tryd.pinned.checked.prog.wantsStandIn t = false := by
  obtain rfl : f = 5 := Option.some.inj ((show Tryd.prog.funcNamed "loop.example/g00003/laws.FnExactDecodeArp" = some 5 by kernel_rfl).symm.trans hf) |>.symm
  obtain rfl : fn = Tryd.f5 := (Option.some.inj (Tryd.func5.symm.trans hfn)).symm
  refine ⟨by kernel_rfl, fun j t ht => ?_⟩
  rw [Tryd.params5] at ht
  have hm : t ∈ [22] := by simpa using Array.mem_of_getElem? ht
  have hall : ([22].all fun u => !Tryd.prog.wantsStandIn u) = true := by kernel_rfl
  exact (show Tryd.prog.wantsStandIn t = false by simpa using List.all_eq_true.1 hall t hm)
theorem fnExactDecodeArp_holds : Rows.FnExactDecodeArpCardSaid :=
  Claim7.holds_tied_plain_at .later [] _ _ _ _ fnExactDecodeArp_said (fun _ h => by cases h) (by kernel_rfl) (fun _ h => by cases h) fnExactDecodeArp_row_tie rfl ⟨rfl, rfl⟩ (by kernel_rfl) rfl fnExactDecodeArp_plain (by kernel_rfl)
end Go.Proofs.YthoinddlnmailaaDoor
