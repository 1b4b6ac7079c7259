/-
At every input the law FnExactEncodeIcmp of the landed program answers true, and its arguments read afterwards as before.
Condition: the package-level tables that the card lists are as the program lays them (the card ties them to the text, within the pruned copy).
-/
import Derived.Test.YtakoagfeiolkjabDoorRows
import Derived.WalkKit
import Derived.ProofKit
import Derived.OpenShut
import Derived.Test.YtakoagfeiolkjabDoorIef
import Derived.Test.YtakoagfeiolkjabDoorLen
import Derived.Lib.SmallJoins
import Derived.ShutString
import Derived.ChangeOld
import Derived.Below
import Derived.Test.YtakoagfeiolkjabDoorCards
import Derived.Test.YtakoagfeiolkjabDoorTie
import Derived.Lib.LaidTab
import Derived.Stop.LaidErr
import Derived.LaidMore
import Derived.SevenTiedAt
import Derived.LaidLaws
import Derived.LaidHandle
namespace Go.Proofs.YtakoagfeiolkjabDoor
open Go.ChangeShapes Go.WideShapes Go.ChangeAt Go.RowKit
set_option linter.unusedVariables false
set_option maxRecDepth 100000
/-- What the walk is told of a slice of integers that came in: nil, or a row of 'cap' cells, the first 'len' of them its elements. -/
def IsRow (k : IntKind) (w : World) (a : Option Addr) (len cap : Nat) (zs : List Int) : Prop :=
  (a = none ∧ len = 0 ∧ cap = 0 ∧ zs = []) ∨
  ∃ x, a = some x ∧ len ≤ cap ∧ cap ≤ maxLen ∧ zs.length = cap ∧ (∀ i, i < zs.length → w.cell? (x.add i) = some (.int k (zs.getD i 0))) ∧ ∀ n ∈ zs, (Lit.int k n).wf = true
theorem cell_lt {w : World} {b o : Nat} {v : Value} (h : w.cell? ⟨b, o, none⟩ = some v) : b < w.heap.size := by
  by_cases hb : b < w.heap.size
  · exact hb
  · exfalso
    unfold World.cell? at h
    simp [Array.getElem?_eq_none (Nat.le_of_not_lt hb)] at h
theorem IsRow.arr {w : World} {a : Option Addr} {len cap : Nat} {zs : List Int} (h : IsRow .u8 w a len cap zs) : ∃ ys : List Int, ys.length = len ∧ Arr w a ys := by
  rcases h with ⟨rfl, rfl, rfl, rfl⟩ | ⟨x, rfl, hl, hm, hz, hcell, hwz⟩
  · exact ⟨[], rfl, by simp, fun j hj => by simp at hj⟩
  · refine ⟨zs.take len, by simp; omega, ?_, ?_⟩
    · intro z hz'
      have := hwz z (List.mem_of_mem_take hz')
      simpa [Lit.wf, IntKind.min, IntKind.max, IntKind.signed, IntKind.bits] using this
    · intro j hj
      have hj' : j < len := by simp at hj; omega
      obtain ⟨b, off, rfl, hc⟩ := ints_at hcell (by omega)
      have h1 := hc j (by omega)
      refine ⟨b, off, rfl, cell_lt h1, ?_⟩
      rw [h1, List.getD_eq_getElem?_getD, List.getD_eq_getElem?_getD, List.getElem?_take, if_pos hj']

theorem row_bound {w : World} {a : Option Addr} {n cap : Nat} {z : List Int} (h : IsRow .u8 w a n cap z) : n ≤ 9223372036854775807 := by
  rcases h with ⟨_, rfl, _, _⟩ | ⟨x, _, hl, hm, _⟩
  · omega
  · have : cap ≤ 9223372036854775807 := hm
    omega

/-- A struct of numbers by value: each of its cells reads at its field's type. -/
theorem agg_cells {H : Type} {enc : TypeId × Value → H} {P : Program} {w : World} {base b0 : Nat} {spare : Nat → Bool} {held : Bool} {r : Reach} {t : TypeId} {fs : Array Field} {v : Value} {d : DataW H} {p : List MemPlace} (hs : P.underlying t = some (.struct fs)) (hone : Go.Deep.oneCellFields P fs = true)
    (hv : Value.okWide P w r b0 t v) (h : DataW.Trod enc P w base spare held t v d p) :
    ∃ cs : Array Value, v = .agg cs ∧ cs.size = P.cellsOf t ∧ ∀ (i : Nat) (f : Field) (c : Value), fs[i]? = some f → cs[i]? = some c → ∃ n y, DataW.trod enc P w base spare held n f.type [c] = some y := by
  obtain ⟨cs, rfl, hsz⟩ := okWide_struct hs hv
  obtain ⟨fuel, hf⟩ := h
  obtain ⟨xs, n, _, _, hl, hlen, hr⟩ := DataW.trod_struct hs hf
  refine ⟨cs, rfl, hsz, fun i f c hi hc => ?_⟩
  obtain ⟨ho, hk⟩ := Go.Deep.hone_of hone i f hi
  have hlt : i < xs.length := by
    rw [hlen]; exact (Array.getElem?_eq_some_iff.1 hi).1
  have h1 := hr i f hi
  have e : (((Value.agg cs).cells.toList.drop f.offset).take (P.cellsOf f.type)) = [c] := by
    rw [ho, hk]
    have hc' : cs.toList[i]? = some c := by simpa using hc
    obtain ⟨hlt', e'⟩ := List.getElem?_eq_some_iff.1 hc'
    simp only [Value.cells]
    rw [List.drop_eq_getElem_cons hlt', e']
    rfl
  rw [e] at h1
  exact ⟨n, _, h1.trans (List.getElem?_eq_getElem hlt)⟩

theorem cellsIcmp {α : Type} {cs : Array α} (h : cs.size = 4) : ∃ k0 k1 k2 k3, cs = #[k0, k1, k2, k3] := by
  obtain ⟨l⟩ := cs
  match l, h with
  | [k0, k1, k2, k3], _ => exact ⟨k0, k1, k2, k3, rfl⟩
theorem openIcmp {H : Type} {enc : TypeId × Value → H} {w : World} {base b0 : Nat} {held : Bool} {r : Reach} {v : Value} {d : DataW H} {p : List MemPlace} (hv : Value.okWide Tryd.prog w r b0 24 v) (h : DataW.Trod enc Tryd.prog w base (fun _ => true) held 24 v d p) :
    ∃ (x0 : Int) (x1 : Int) (x2 : Int) (a0 : Option Addr) (n0 c0 : Nat) (z0 : List Int), v = .agg #[.int .i64 x0, .int .i64 x1, .int .i64 x2, .slice a0 n0 c0] ∧ IsRow .u8 w a0 n0 c0 z0 := by
  obtain ⟨cs, rfl, hsz, hr⟩ := agg_cells Tryd.underlying24 (by kernel_rfl) hv h
  have hC : Tryd.prog.cellsOf 24 = 4 := by kernel_rfl
  obtain ⟨k0, k1, k2, k3, rfl⟩ := cellsIcmp (hsz.trans hC)
  obtain ⟨m0, y0, r0⟩ := hr 0 _ k0 rfl rfl
  obtain ⟨x0, e0, _, _⟩ := DataW.trod_int Tryd.underlying2 r0
  simp at e0
  subst e0
  obtain ⟨m1, y1, r1⟩ := hr 1 _ k1 rfl rfl
  obtain ⟨x1, e1, _, _⟩ := DataW.trod_int Tryd.underlying2 r1
  simp at e1
  subst e1
  obtain ⟨m2, y2, r2⟩ := hr 2 _ k2 rfl rfl
  obtain ⟨x2, e2, _, _⟩ := DataW.trod_int Tryd.underlying2 r2
  simp at e2
  subst e2
  obtain ⟨m3, y3, r3⟩ := hr 3 _ k3 rfl rfl
  obtain ⟨a0, n0, c0, z0, rfl, w0⟩ : ∃ a len cap zs, k3 = .slice a len cap ∧ IsRow .u8 w a len cap zs := by
    rcases open_ints Tryd.underlying22 Tryd.underlying5 (by kernel_rfl) r3 with ⟨hcs, _⟩ | ⟨x, l, c, zs, hcs, _, hl, hm, hz, _, hcell, hwz⟩
    · simp at hcs
      exact ⟨none, 0, 0, [], hcs, .inl ⟨rfl, rfl, rfl, rfl⟩⟩
    · simp at hcs
      exact ⟨some x, l, c, zs, hcs, .inr ⟨_, rfl, hl, hm, by simpa using hz, hcell, hwz⟩⟩
  exact ⟨x0, x1, x2, a0, n0, c0, z0, rfl, w0⟩

theorem walkEncodeIcmp (x0 x1 x2 : Int) (a0 : Option Addr) (n0 c0 : Nat) (z0 : List Int) (w : World) (w0 : IsRow .u8 w a0 n0 c0 z0) (he : ErrT w) :
    Calls Tryd.prog 3 #[.agg #[.int .i64 x0, .int .i64 x1, .int .i64 x2, .slice a0 n0 c0]] w fun e w' => e = .returned (.bool true) ∧ Below w.heap.size w w' := by
  obtain ⟨y0, h0n, h0a⟩ := w0.arr
  exact walkEncodeIcmp0 ErrT (fun _ _ h hb => h.below hb (Nat.le_refl _)) x0 x1 x2 a0 n0 c0 y0 _ _ (specEncIcmp x0 x1 x2 y0 _) (implEncIcmp x0 x1 x2 y0) (icL_len x0 x1 x2 y0) w h0n h0a (row_bound w0) he

theorem own : ownKnob Tryd.prog.godebug = none := by kernel_rfl
theorem laidOut : laidOutB Tryd.prog = true := by kernel_rfl
theorem errG : Tryd.prog.globalNamed "errors.errorType" = some 0 := by kernel_rfl
theorem rtT : (Tryd.prog.cutTypes.find? (·.1 == "internal/reflectlite.rtype")).map (·.2) = some 138 := by kernel_rfl
theorem oneErr : ((List.range 181).filter fun t => Tryd.prog.rowNamed t [101, 114, 114, 111, 114]) = [67] := by kernel_rfl
theorem typesN : Tryd.prog.types.size = 181 := by kernel_rfl
/-- What the row's list gives: the variable holds the handle of the type 'error'. -/
theorem errOf {W : World} (h : laidMetH Tryd.prog Rows.fnExactEncodeIcmpRow.laid W) : ErrT W := by
  have h' : laidMet Tryd.prog [] W ∧ handlesMet Tryd.prog Rows.fnExactEncodeIcmpRow.laid W := h
  obtain ⟨name, u, ty, e1, e2, e3, e4, e5⟩ := h'.2 _ (List.mem_singleton.2 rfl)
  have en : name = [101, 114, 114, 111, 114] := (Option.some.inj e1).symm
  subst en
  obtain rfl := Option.some.inj (rtT.symm.trans e2)
  have hm : ty ∈ (List.range 181).filter fun t => Tryd.prog.rowNamed t [101, 114, 114, 111, 114] := List.mem_filter.2 ⟨List.mem_range.2 (by rw [← typesN]; exact e3), e4⟩
  rw [oneErr] at hm
  obtain rfl := List.mem_singleton.1 hm
  have hh : typeHandle Tryd.prog 67 = .pointer (some ⟨1, 67, none⟩) := by kernel_rfl
  rw [hh] at e5
  have hc : W.cell? ⟨0, 0, none⟩ = some (.iface 138 (.agg #[.pointer (some ⟨1, 67, none⟩)])) := by simpa using World.var?_cell errG e5 0
  exact ⟨World.block_lt_of_cell? W _ hc, hc⟩
theorem door_met (os : Os) (args : Array Value) : laidMetH Tryd.prog Rows.fnExactEncodeIcmpRow.laid ((World.doorLaid Tryd.prog 400 os).forCall (fun _ _ => 0) ⟨#[], args, []⟩).memory :=
  laidMetH_of_parts3 (fuel := 8) (laidMet_of_run' 8 (by kernel_rfl) (by kernel_rfl)) (by kernel_rfl) (by kernel_rfl)
set_option maxRecDepth 100000 in
theorem fnExactEncodeIcmp_lifted (os : Os) (started : os.Started) (H : Type) (enc : TypeId × Value → H) :
    ReturnsInHanded {} Tryd.checked os 3 .any (fun w args => (Rows.fnExactEncodeIcmpSpec.pre enc Tryd.prog Tryd.f3 [] false w args ∧ laidMetH Tryd.prog Rows.fnExactEncodeIcmpRow.laid w) ∧ sizedMet enc Tryd.prog Tryd.f3 (OpenSpec.ofChange Rows.fnExactEncodeIcmpSpec) false w args) (Rows.fnExactEncodeIcmpSpec.post enc Tryd.prog Tryd.f3 false true false false) := by
  refine returnsInHanded_of_change_and (C := Tryd.checked) (X := fun w _ => laidMetH Tryd.prog Rows.fnExactEncodeIcmpRow.laid w) (fun _ _ _ hh h => h.of_heap hh) own started (by kernel_rfl) Tryd.func3
    (ChangeSpec.witness_shaped (enc := enc) (C := Tryd.checked) (os := os) (X := fun w _ => laidMetH Tryd.prog Rows.fnExactEncodeIcmpRow.laid w) false (World.doorLaid Tryd.prog 400 os) #[.agg #[.int .i64 0, .int .i64 0, .int .i64 0, .slice none 0 0]] 8 rfl (World.shaped_of_RefB (by kernel_rfl) (by kernel_rfl)) (by kernel_rfl) (by kernel_rfl) (by kernel_rfl) (door_met os _)) ?_
  intro W base args ds gs before hval0 hW _ _ hL _
  have hval : ∀ (j : Nat) t v, Tryd.f3.params[j]? = some t → args[j]? = some v → Value.okWide Tryd.prog W .any base t v := hval0
  have hW' := hW
  obtain ⟨p, q, hA0, hV, rfl, hfz, hnd⟩ := hW
  have hA : DataW.TrodAll enc Tryd.prog W 0 (fun _ => true) true Tryd.f3.params.toList args.toList ds p := hA0
  rw [Tryd.params3] at hA hval
  obtain ⟨v0, vs0, d0, ds0, p0, q0, hargs, rfl, rfl, h0, r0⟩ := trodAll_cons hA
  obtain ⟨rfl, rfl, rfl⟩ := trodAll_nil r0
  obtain rfl : args = #[v0] := by cases args; simp_all
  obtain ⟨rfl, rfl⟩ := trodVars_none hV
  have k0 := h0
  have lt0 : ∀ x ∈ p0, x.block < W.heap.size := by obtain ⟨m, hm⟩ := k0; exact DataW.trod_lt m _ _ _ hm
  obtain ⟨x0_0, x0_1, x0_2, a0_0, n0_0, c0_0, z0_0, rfl, w0_0⟩ := openIcmp (hval 0 24 v0 rfl rfl) h0
  clear hA0 hval0
  refine (walkEncodeIcmp x0_0 x0_1 x0_2 a0_0 n0_0 c0_0 z0_0 W w0_0 (errOf hL)).mono fun e W' ⟨he, bel⟩ => ?_
  subst he
  exact ⟨_, rfl, _, _, _, [], _, [], hW', trodAll_mk1 (shut_bool Tryd.underlying4 _), (trodAll_cons_mk (Below.trod laidOut (by kernel_rfl) (of_decide_eq_true (by kernel_rfl)) k0 bel lt0) trodAll_mk0), rfl, bel.frame _, fun h => by cases h⟩
theorem fnExactEncodeIcmp_said : Rows.FnExactEncodeIcmpSaid :=
  OpenClaim.holds_of_wide 3 Tryd.f3 rfl rfl rfl rfl rfl rfl rfl ⟨rfl, rfl, rfl, rfl, rfl⟩ rfl rfl rfl rfl rfl (by kernel_rfl) Tryd.func3 (by kernel_rfl)
    (of_decide_eq_true (by kernel_rfl)) (by unfold Func.isWrapper; first | (rw [if_pos (by decide +kernel)]; kernel_rfl) | (rw [if_neg (by decide +kernel)]; exact ⟨rfl, rfl⟩))
    (fun os started H enc _ => fnExactEncodeIcmp_lifted os started H enc)
theorem fnExactEncodeIcmp_plain (f : FuncId) (fn : Func) (hf : Tryd.pinned.checked.prog.funcNamed "loop.example/g00003/laws.FnExactEncodeIcmp" = some f) (hfn : Tryd.pinned.checked.prog.funcs[f]? = some fn) :
    true = Tryd.pinned.checked.prog.looks [] ∧ ∀ (j : Nat) t, fn.params[j]? = some t → Tryd.pinned.checked.prog.wantsStandIn t = false := by
  obtain rfl : f = 3 := Option.some.inj ((show Tryd.prog.funcNamed "loop.example/g00003/laws.FnExactEncodeIcmp" = some 3 by kernel_rfl).symm.trans hf) |>.symm
  obtain rfl : fn = Tryd.f3 := (Option.some.inj (Tryd.func3.symm.trans hfn)).symm
  refine ⟨by kernel_rfl, fun j t ht => ?_⟩
  rw [Tryd.params3] at ht
  have hm : t ∈ [24] := by simpa using Array.mem_of_getElem? ht
  have hall : ([24].all fun u => !Tryd.prog.wantsStandIn u) = true := by kernel_rfl
  exact (show Tryd.prog.wantsStandIn t = false by simpa using List.all_eq_true.1 hall t hm)
theorem fnExactEncodeIcmp_holds : Rows.FnExactEncodeIcmpCardSaid :=
  Claim7.holds_tied_plain_at .later [] _ _ _ _ fnExactEncodeIcmp_said (fun _ h => by cases h) (by kernel_rfl) (fun _ h => by cases h) fnExactEncodeIcmp_row_tie rfl ⟨rfl, rfl⟩ (by kernel_rfl) rfl fnExactEncodeIcmp_plain (by kernel_rfl)
end Go.Proofs.YtakoagfeiolkjabDoor
