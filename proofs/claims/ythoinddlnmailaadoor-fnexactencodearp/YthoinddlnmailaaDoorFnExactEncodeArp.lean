/-
At every input the law FnExactEncodeArp of the landed program answers true, and its arguments read afterwards as before.
Condition: the package-level tables that the card lists are as the program lays them (the card ties them to the text, within the pruned copy).
-/
import Derived.Test.YthoinddlnmailaaDoorRows
import Derived.WalkKit
import Derived.ProofKit
import Derived.OpenShut
import Derived.Test.YthoinddlnmailaaDoorEne
import Derived.Test.YthoinddlnmailaaDoorAre
import Derived.Lib.SmallJoins
import Derived.ShutString
import Derived.ChangeOld
import Derived.Below
import Derived.Test.YthoinddlnmailaaDoorCards
import Derived.Test.YthoinddlnmailaaDoorTie
import Derived.Lib.LaidTab
import Derived.Stop.LaidErr
import Derived.LaidMore
import Derived.SevenTiedAt
import Derived.LaidLaws
import Derived.LaidHandle
namespace Go.Proofs.YthoinddlnmailaaDoor
open Go.ChangeShapes Go.WideShapes Go.ChangeAt Go.RowKit
set_option linter.unusedVariables false
set_option maxRecDepth 100000
/-- What the walk is told of a slice of integers that came in: nil, or a row of 'cap' cells, the first 'len' of them its elements. -/
def IsRow (k : IntKind) (w : World) (a : Option Addr) (len cap : Nat) (zs : List Int) : Prop :=
  (a = none ∧ len = 0 ∧ cap = 0 ∧ zs = []) ∨
  ∃ x, a = some x ∧ len ≤ cap ∧ cap ≤ maxLen ∧ zs.length = cap ∧ (∀ i, i < zs.length → w.cell? (x.add i) = some (.int k (zs.getD i 0))) ∧ ∀ n ∈ zs, (Lit.int k n).wf = true
theorem cell_lt {w : World} {b o : Nat} {v : Value} (h : w.cell? ⟨b, o, none⟩ = some v) : b < w.heap.size := by
  by_cases hb : b < w.heap.size
  · exact hb
  · exfalso
    unfold World.cell? at h
    simp [Array.getElem?_eq_none (Nat.le_of_not_lt hb)] at h
theorem IsRow.arr {w : World} {a : Option Addr} {len cap : Nat} {zs : List Int} (h : IsRow .u8 w a len cap zs) : ∃ ys : List Int, ys.length = len ∧ Arr w a ys := by
  rcases h with ⟨rfl, rfl, rfl, rfl⟩ | ⟨x, rfl, hl, hm, hz, hcell, hwz⟩
  · exact ⟨[], rfl, by simp, fun j hj => by simp at hj⟩
  · refine ⟨zs.take len, by simp; omega, ?_, ?_⟩
    · intro z hz'
      have := hwz z (List.mem_of_mem_take hz')
      simpa [Lit.wf, IntKind.min, IntKind.max, IntKind.signed, IntKind.bits] using this
    · intro j hj
      have hj' : j < len := by simp at hj; omega
      obtain ⟨b, off, rfl, hc⟩ := ints_at hcell (by omega)
      have h1 := hc j (by omega)
      refine ⟨b, off, rfl, cell_lt h1, ?_⟩
      rw [h1, List.getD_eq_getElem?_getD, List.getD_eq_getElem?_getD, List.getElem?_take, if_pos hj']

set_option maxHeartbeats 1000000 in
theorem toArp_walk (o m s u t : Int) (w : World) :
    Calls Tryd.prog 31 #[.agg #[.int .i64 o, .int .i64 m, .int .i64 s, .int .i64 u, .int .i64 t]] w fun e w' => e = .returned (.agg #[.int .i64 o, .int .i64 m, .int .i64 s, .int .i64 u, .int .i64 t]) ∧ Below w.heap.size w w' := by
  go_enter Tryd.func31, Tryd.ntmps31
  go_wp2_with fail
  have s1 := World.size_alloc w (.cells #[.int .i64 o, .int .i64 m, .int .i64 s, .int .i64 u, .int .i64 t] 54)
  have s2 := World.size_alloc (w.alloc (.cells #[.int .i64 o, .int .i64 m, .int .i64 s, .int .i64 u, .int .i64 t] 54)) (.cells #[.int .i64 o, .int .i64 m, .int .i64 s, .int .i64 u, .int .i64 t] 44)
  exact bodyPost_ret (v := .agg #[.int .i64 o, .int .i64 m, .int .i64 s, .int .i64 u, .int .i64 t]) (by simp [results, Tryd.results31, go_sem]) rfl ⟨rfl, (((Below.refl _ _).alloc (Nat.le_refl _) _).alloc (by omega) _).alloc (by omega) _⟩

set_option maxHeartbeats 8000000 in
theorem walkEncodeArp (o m s u t : Int) (w : World) (he : ErrT w) :
    Calls Tryd.prog 7 #[.agg #[.int .i64 o, .int .i64 m, .int .i64 s, .int .i64 u, .int .i64 t]] w fun e w' => e = .returned (.bool true) ∧ Below w.heap.size w w' := by
  have HE := hide he
  clear he
  have HB := hide (BoxA.start w o m s u t 54)
  have CT := hide (fun W => toArp_walk o m s u t W)
  have CS := hide (fun W => specEncA_walk o m s u t W)
  have CI := hide (fun W (hb : Below w.heap.size w W) => implEncA_walk o m s u t W (HE.out.below hb (Nat.le_refl _)))
  have hlen := arL_len o m s u t
  obtain ⟨_, _, c0, c1, c2, c3, c4⟩ := HB.out
  generalize arL o m s u t = L at *
  generalize arC o m s u t = C at *
  go_enter Tryd.func7, Tryd.ntmps7
  go_wp2_with fail
  generalize w.alloc (.cells #[.int .i64 o, .int .i64 m, .int .i64 s, .int .i64 u, .int .i64 t] 54) = W at *
  refine (CT.out _).mono ?_
  rintro e w1 ⟨rfl, hb1⟩
  have HB1 := hide (HB.out.next hb1)
  clear c0 c1 c2 c3 c4 HB hb1
  go_wp2_with fail
  refine (CS.out _).mono ?_
  rintro e w2 ⟨v4, rfl, hO4, hb2⟩
  have HB2 := hide (HB1.out.next hb2)
  obtain ⟨a4, k4, rfl, ha4⟩ := own_slice hO4
  have HO4 := hide hO4
  obtain ⟨_, _, c0, c1, c2, c3, c4⟩ := HB2.out
  clear hO4 hb2 HB1 ha4 CS
  go_wp2_with fail
  refine (CT.out _).mono ?_
  rintro e w3 ⟨rfl, hb3⟩
  have z3 := hb3.size
  have lt4 := own_lt HO4.out
  have HB3 := hide (HB2.out.next hb3)
  have HO4a := hide (HO4.out.next hb3)
  clear c0 c1 c2 c3 c4 HB2 hb3 HO4
  go_wp2_with fail
  refine (CI.out _ HB3.out.1).mono ?_
  rintro e w5 ⟨v7, rfl, hO7, hb5⟩
  obtain ⟨a7, k7, rfl, ha7⟩ := own_slice hO7
  have HO7 := hide hO7
  have z5 := hb5.size
  have HB5 := hide (HB3.out.next hb5)
  have HO4b := hide (HO4a.out.next hb5)
  have hsz5 := HB3.out.2.1
  clear hO7 hb5 ha7 HB3 HO4a
  have E1 := hide (eqByteS_walk a7 a4 L.length k7 k4 L w5 rfl (own_arr HO7.out).1 (own_arr HO4b.out).1 (by omega))
  go_wp2_with fail
  refine E1.out.mono ?_
  rintro e w6 ⟨rfl, hb6, hz6⟩
  have HO7b := hide (HO7.out.next hb6)
  have HB6 := hide (HB5.out.next hb6)
  have HO4c := hide (HO4b.out.next hb6)
  have z6 := hb6.size
  clear E1 hb6 hz6 HO7 HB5 HO4b
  have M1 := hide (markB_walk _ _ L 1 w6 HO7b.out (by omega) (by omega))
  go_wp2_with fail
  refine M1.out.mono ?_
  rintro e w7 ⟨rfl, hO7m, hg7⟩
  have HM := hide hO7m
  have hb7 : Below w3.heap.size w6 w7 := grown_own HO7b.out hg7 (by omega)
  have HB7 := hide (HB6.out.keep hb7 (by omega))
  have HO4d := hide (HO4c.out.below hb7 (fun k hk => by have := lt4 k hk; omega))
  clear M1 hO7m hg7 hb7 HO7b HB6 HO4c
  have D1 := hide (heldB_walk a7 L.length k7 1 w7 (own_arr HM.out).1 (by omega) (by omega))
  go_wp2_with fail
  refine D1.out.mono ?_
  rintro e w8 ⟨rfl, hw8⟩
  rw [hw8]
  clear hw8 D1
  obtain ⟨_, _, c0, c1, c2, c3, c4⟩ := HB7.out
  go_wp2_with fail
  refine (CT.out _).mono ?_
  rintro e w9 ⟨rfl, hb9⟩
  have HB9 := hide (HB7.out.next hb9)
  have HO4e := hide (HO4d.out.next hb9)
  have HM9 := hide (HM.out.next hb9)
  clear c0 c1 c2 c3 c4 HB7 HO4d HM hb9
  go_wp2_with fail
  refine (CI.out _ HB9.out.1).mono ?_
  rintro e w14 ⟨v14, rfl, hO14, hb14⟩
  obtain ⟨a14, k14, rfl, ha14⟩ := own_slice hO14
  have HB14 := hide (HB9.out.next hb14)
  have HO4k := hide (HO4e.out.next hb14)
  have HM14 := hide (HM9.out.next hb14)
  clear HB9 HO4e HM9 hb14
  have E3 := hide (eqByteS_walk a14 a4 L.length k14 k4 L w14 rfl ha14 (own_arr HO4k.out).1 (by omega))
  clear ha14 hO14
  go_wp2_with fail
  refine E3.out.mono ?_
  rintro e w15 ⟨rfl, hb15, hz15⟩
  have HB15 := hide (HB14.out.next hb15)
  have HM15 := hide (HM14.out.next hb15)
  clear E3 hb15 hz15 HB14 HM14 HO4k
  have D2 := hide (heldB_walk a7 L.length k7 1 w15 (own_arr HM15.out).1 (by omega) (by omega))
  go_wp2_with fail
  refine D2.out.mono ?_
  rintro e w16 ⟨rfl, hw16⟩
  rw [hw16]
  go_wp2_with fail
  go_ret
  exact ⟨rfl, HB15.out.1⟩

/-- A struct of numbers by value: each of its cells reads at its field's type. -/
theorem agg_cells {H : Type} {enc : TypeId × Value → H} {P : Program} {w : World} {base b0 : Nat} {spare : Nat → Bool} {held : Bool} {r : Reach} {t : TypeId} {fs : Array Field} {v : Value} {d : DataW H} {p : List MemPlace} (hs : P.underlying t = some (.struct fs)) (hone : Go.Deep.oneCellFields P fs = true)
    (hv : Value.okWide P w r b0 t v) (h : DataW.Trod enc P w base spare held t v d p) :
    ∃ cs : Array Value, v = .agg cs ∧ cs.size = P.cellsOf t ∧ ∀ (i : Nat) (f : Field) (c : Value), fs[i]? = some f → cs[i]? = some c → ∃ n y, DataW.trod enc P w base spare held n f.type [c] = some y := by
  obtain ⟨cs, rfl, hsz⟩ := okWide_struct hs hv
  obtain ⟨fuel, hf⟩ := h
  obtain ⟨xs, n, _, _, hl, hlen, hr⟩ := DataW.trod_struct hs hf
  refine ⟨cs, rfl, hsz, fun i f c hi hc => ?_⟩
  obtain ⟨ho, hk⟩ := Go.Deep.hone_of hone i f hi
  have hlt : i < xs.length := by
    rw [hlen]; exact (Array.getElem?_eq_some_iff.1 hi).1
  have h1 := hr i f hi
  have e : (((Value.agg cs).cells.toList.drop f.offset).take (P.cellsOf f.type)) = [c] := by
    rw [ho, hk]
    have hc' : cs.toList[i]? = some c := by simpa using hc
    obtain ⟨hlt', e'⟩ := List.getElem?_eq_some_iff.1 hc'
    simp only [Value.cells]
    rw [List.drop_eq_getElem_cons hlt', e']
    rfl
  rw [e] at h1
  exact ⟨n, _, h1.trans (List.getElem?_eq_getElem hlt)⟩

theorem five_of {α : Type} {cs : Array α} (h : cs.size = 5) : ∃ c0 c1 c2 c3 c4, cs = #[c0, c1, c2, c3, c4] := by
  obtain ⟨l⟩ := cs
  match l, h with
  | [c0, c1, c2, c3, c4], _ => exact ⟨c0, c1, c2, c3, c4, rfl⟩
/-- A struct of five numbers by value. -/
theorem open_five {H : Type} {enc : TypeId × Value → H} {P : Program} {w : World} {base b0 : Nat} {spare : Nat → Bool} {held : Bool} {r : Reach} {t : TypeId} {f0 f1 f2 f3 f4 : Field} {v : Value} {d : DataW H} {p : List MemPlace} (hs : P.underlying t = some (.struct #[f0, f1, f2, f3, f4])) (hone : Go.Deep.oneCellFields P #[f0, f1, f2, f3, f4] = true) (hC : P.cellsOf t = 5)
    (h0 : P.underlying f0.type = some (.int .i64)) (h1 : P.underlying f1.type = some (.int .i64)) (h2 : P.underlying f2.type = some (.int .i64)) (h3 : P.underlying f3.type = some (.int .i64)) (h4 : P.underlying f4.type = some (.int .i64))
    (hv : Value.okWide P w r b0 t v) (h : DataW.Trod enc P w base spare held t v d p) : ∃ a0 a1 a2 a3 a4 : Int, v = .agg #[.int .i64 a0, .int .i64 a1, .int .i64 a2, .int .i64 a3, .int .i64 a4] := by
  obtain ⟨cs, rfl, hsz, hr⟩ := agg_cells hs hone hv h
  obtain ⟨c0, c1, c2, c3, c4, rfl⟩ := five_of (hsz.trans hC)
  have one : ∀ (t : TypeId) (c : Value) (n : Nat) (y : DataW H × List MemPlace), P.underlying t = some (.int .i64) → DataW.trod enc P w base spare held n t [c] = some y → ∃ a : Int, c = .int .i64 a := by
    intro t c n y ht hy
    obtain ⟨a, e, _, _⟩ := DataW.trod_int ht hy
    simp at e
    exact ⟨a, e⟩
  obtain ⟨n0, y0, r0⟩ := hr 0 f0 c0 rfl rfl
  obtain ⟨n1, y1, r1⟩ := hr 1 f1 c1 rfl rfl
  obtain ⟨n2, y2, r2⟩ := hr 2 f2 c2 rfl rfl
  obtain ⟨n3, y3, r3⟩ := hr 3 f3 c3 rfl rfl
  obtain ⟨n4, y4, r4⟩ := hr 4 f4 c4 rfl rfl
  obtain ⟨a0, rfl⟩ := one _ _ _ _ h0 r0
  obtain ⟨a1, rfl⟩ := one _ _ _ _ h1 r1
  obtain ⟨a2, rfl⟩ := one _ _ _ _ h2 r2
  obtain ⟨a3, rfl⟩ := one _ _ _ _ h3 r3
  obtain ⟨a4, rfl⟩ := one _ _ _ _ h4 r4
  exact ⟨a0, a1, a2, a3, a4, rfl⟩

theorem own : ownKnob Tryd.prog.godebug = none := by kernel_rfl
theorem laidOut : laidOutB Tryd.prog = true := by kernel_rfl
theorem errG : Tryd.prog.globalNamed "errors.errorType" = some 0 := by kernel_rfl
theorem rtT : (Tryd.prog.cutTypes.find? (·.1 == "internal/reflectlite.rtype")).map (·.2) = some 121 := by kernel_rfl
theorem oneErr : ((List.range 162).filter fun t => Tryd.prog.rowNamed t [101, 114, 114, 111, 114]) = [64] := by kernel_rfl
theorem typesN : Tryd.prog.types.size = 162 := by kernel_rfl
/-- What the row's list gives: the variable holds the handle of the type 'error'. -/
theorem errOf {W : World} (h : laidMetH Tryd.prog Rows.fnExactEncodeArpRow.laid W) : ErrT W := by
  have h' : laidMet Tryd.prog [] W ∧ handlesMet Tryd.prog Rows.fnExactEncodeArpRow.laid W := h
  obtain ⟨name, u, ty, e1, e2, e3, e4, e5⟩ := h'.2 _ (List.mem_singleton.2 rfl)
  have en : name = [101, 114, 114, 111, 114] := (Option.some.inj e1).symm
  subst en
  obtain rfl := Option.some.inj (rtT.symm.trans e2)
  have hm : ty ∈ (List.range 162).filter fun t => Tryd.prog.rowNamed t [101, 114, 114, 111, 114] := List.mem_filter.2 ⟨List.mem_range.2 (by rw [← typesN]; exact e3), e4⟩
  rw [oneErr] at hm
  obtain rfl := List.mem_singleton.1 hm
  have hh : typeHandle Tryd.prog 64 = .pointer (some ⟨1, 64, none⟩) := by kernel_rfl
  rw [hh] at e5
  have hc : W.cell? ⟨0, 0, none⟩ = some (.iface 121 (.agg #[.pointer (some ⟨1, 64, none⟩)])) := by simpa using World.var?_cell errG e5 0
  exact ⟨World.block_lt_of_cell? W _ hc, hc⟩
theorem door_met (os : Os) (args : Array Value) : laidMetH Tryd.prog Rows.fnExactEncodeArpRow.laid ((World.doorLaid Tryd.prog 400 os).forCall (fun _ _ => 0) ⟨#[], args, []⟩).memory :=
  laidMetH_of_parts3 (fuel := 8) (laidMet_of_run' 8 (by kernel_rfl) (by kernel_rfl)) (by kernel_rfl) (by kernel_rfl)
set_option maxRecDepth 100000 in
theorem fnExactEncodeArp_lifted (os : Os) (started : os.Started) (H : Type) (enc : TypeId × Value → H) :
    ReturnsInHanded {} Tryd.checked os 7 .any (fun w args => (Rows.fnExactEncodeArpSpec.pre enc Tryd.prog Tryd.f7 [] false w args ∧ laidMetH Tryd.prog Rows.fnExactEncodeArpRow.laid w) ∧ sizedMet enc Tryd.prog Tryd.f7 (OpenSpec.ofChange Rows.fnExactEncodeArpSpec) false w args) (Rows.fnExactEncodeArpSpec.post enc Tryd.prog Tryd.f7 false true false false) := by
  refine returnsInHanded_of_change_and (C := Tryd.checked) (X := fun w _ => laidMetH Tryd.prog Rows.fnExactEncodeArpRow.laid w) (fun _ _ _ hh h => h.of_heap hh) own started (by kernel_rfl) Tryd.func7
    (ChangeSpec.witness_shaped (enc := enc) (C := Tryd.checked) (os := os) (X := fun w _ => laidMetH Tryd.prog Rows.fnExactEncodeArpRow.laid w) false (World.doorLaid Tryd.prog 400 os) #[.agg #[.int .i64 0, .int .i64 0, .int .i64 0, .int .i64 0, .int .i64 0]] 8 rfl (World.shaped_of_RefB (by kernel_rfl) (by kernel_rfl)) (by kernel_rfl) (by kernel_rfl) (by kernel_rfl) (door_met os _)) ?_
  intro W base args ds gs before hval0 hW _ _ hL _
  have hval : ∀ (j : Nat) t v, Tryd.f7.params[j]? = some t → args[j]? = some v → Value.okWide Tryd.prog W .any base t v := hval0
  have hW' := hW
  obtain ⟨p, q, hA0, hV, rfl, hfz, hnd⟩ := hW
  have hA : DataW.TrodAll enc Tryd.prog W 0 (fun _ => true) true Tryd.f7.params.toList args.toList ds p := hA0
  rw [Tryd.params7] at hA hval
  obtain ⟨v0, vs0, d0, ds0, p0, q0, hargs, rfl, rfl, h0, r0⟩ := trodAll_cons hA
  obtain ⟨rfl, rfl, rfl⟩ := trodAll_nil r0
  obtain rfl : args = #[v0] := by cases args; simp_all
  obtain ⟨rfl, rfl⟩ := trodVars_none hV
  have k0 := h0
  have lt0 : ∀ x ∈ p0, x.block < W.heap.size := by obtain ⟨m, hm⟩ := k0; exact DataW.trod_lt m _ _ _ hm
  obtain ⟨a00, a01, a02, a03, a04, rfl⟩ := open_five Tryd.underlying54 (by kernel_rfl) (by kernel_rfl) Tryd.underlying2 Tryd.underlying2 Tryd.underlying2 Tryd.underlying2 Tryd.underlying2 (hval 0 54 v0 rfl rfl) h0
  clear hA0 hval0
  refine (walkEncodeArp a00 a01 a02 a03 a04 W (errOf hL)).mono fun e W' ⟨he, bel⟩ => ?_
  subst he
  exact ⟨_, rfl, _, _, _, [], _, [], hW', trodAll_mk1 (shut_bool Tryd.underlying4 _), (trodAll_cons_mk (Below.trod laidOut (by kernel_rfl) (of_decide_eq_true (by kernel_rfl)) k0 bel lt0) trodAll_mk0), rfl, bel.frame _, fun h => by cases h⟩
theorem fnExactEncodeArp_said : Rows.FnExactEncodeArpSaid :=
  OpenClaim.holds_of_wide 7 Tryd.f7 rfl rfl rfl rfl rfl rfl rfl ⟨rfl, rfl, rfl, rfl, rfl⟩ rfl rfl rfl rfl rfl (by kernel_rfl) Tryd.func7 (by kernel_rfl)
    (of_decide_eq_true (by kernel_rfl)) (by unfold Func.isWrapper; first | (rw [if_pos (by decide +kernel)]; kernel_rfl) | (rw [if_neg (by decide +kernel)]; exact ⟨rfl, rfl⟩))
    (fun os started H enc _ => fnExactEncodeArp_lifted os started H enc)
theorem fnExactEncodeArp_plain (f : FuncId) (fn : Func) (hf : Tryd.pinned.checked.prog.funcNamed "loop.example/g00003/laws.FnExactEncodeArp" = some f) (hfn : Tryd.pinned.checked.prog.funcs[f]? = some fn) :
    true = Tryd.pinned.checked.prog.looks [] ∧ ∀ (j : Nat) t, fn.params[j]? = some t → Tryd.pinned.checked.prog.wantsStandIn t = false := by
  obtain rfl : f = 7 := Option.some.inj ((show Tryd.prog.funcNamed "loop.example/g00003/laws.FnExactEncodeArp" = some 7 by kernel_rfl).symm.trans hf) |>.symm
  obtain rfl : fn = Tryd.f7 := (Option.some.inj (Tryd.func7.symm.trans hfn)).symm
  refine ⟨by kernel_rfl, fun j t ht => ?_⟩
  rw [Tryd.params7] at ht
  have hm : t ∈ [54] := by simpa using Array.mem_of_getElem? ht
  have hall : ([54].all fun u => !Tryd.prog.wantsStandIn u) = true := by kernel_rfl
  exact (show Tryd.prog.wantsStandIn t = false by simpa using List.all_eq_true.1 hall t hm)
theorem fnExactEncodeArp_holds : Rows.FnExactEncodeArpCardSaid :=
  Claim7.holds_tied_plain_at .later [] _ _ _ _ fnExactEncodeArp_said (fun _ h => by cases h) (by kernel_rfl) (fun _ h => by cases h) fnExactEncodeArp_row_tie rfl ⟨rfl, rfl⟩ (by kernel_rfl) rfl fnExactEncodeArp_plain (by kernel_rfl)
end Go.Proofs.YthoinddlnmailaaDoor
