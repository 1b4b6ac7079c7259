/-
At every input the law FnExactEncodeSegment of the landed program answers true, and its arguments read afterwards as before.
Condition: the package-level tables that the card lists are as the program lays them (the card ties them to the text, within the pruned copy).
-/
import Derived.Test.YthcmgnhfgplajaaDoorRows
import Derived.WalkKit
import Derived.ProofKit
import Derived.OpenShut
import Derived.Test.YthcmgnhfgplajaaDoorSei
import Derived.Lib.SmallJoins
import Derived.ChangeOld
import Derived.ShutString
import Derived.Below
import Derived.Test.YthcmgnhfgplajaaDoorCards
import Derived.Test.YthcmgnhfgplajaaDoorTie
import Derived.Lib.LaidTab
import Derived.Stop.LaidErr
import Derived.LaidMore
import Derived.SevenTiedAt
import Derived.LaidLaws
import Derived.LaidHandle
namespace Go.Proofs.YthcmgnhfgplajaaDoor
open Go.ChangeShapes Go.WideShapes Go.ChangeAt Go.RowKit
set_option linter.unusedVariables false
set_option maxRecDepth 100000
/-- What the walk is told of a slice of integers that came in: nil, or a row of 'cap' cells, the first 'len' of them its elements. -/
def IsRow (k : IntKind) (w : World) (a : Option Addr) (len cap : Nat) (zs : List Int) : Prop :=
  (a = none ∧ len = 0 ∧ cap = 0 ∧ zs = []) ∨
  ∃ x, a = some x ∧ len ≤ cap ∧ cap ≤ maxLen ∧ zs.length = cap ∧ (∀ i, i < zs.length → w.cell? (x.add i) = some (.int k (zs.getD i 0))) ∧ ∀ n ∈ zs, (Lit.int k n).wf = true
theorem cell_lt {w : World} {b o : Nat} {v : Value} (h : w.cell? ⟨b, o, none⟩ = some v) : b < w.heap.size := by
  by_cases hb : b < w.heap.size
  · exact hb
  · exfalso
    unfold World.cell? at h
    simp [Array.getElem?_eq_none (Nat.le_of_not_lt hb)] at h
theorem IsRow.arr {w : World} {a : Option Addr} {len cap : Nat} {zs : List Int} (h : IsRow .u8 w a len cap zs) : ∃ ys : List Int, ys.length = len ∧ Arr w a ys := by
  rcases h with ⟨rfl, rfl, rfl, rfl⟩ | ⟨x, rfl, hl, hm, hz, hcell, hwz⟩
  · exact ⟨[], rfl, by simp, fun j hj => by simp at hj⟩
  · refine ⟨zs.take len, by simp; omega, ?_, ?_⟩
    · intro z hz'
      have := hwz z (List.mem_of_mem_take hz')
      simpa [Lit.wf, IntKind.min, IntKind.max, IntKind.signed, IntKind.bits] using this
    · intro j hj
      have hj' : j < len := by simp at hj; omega
      obtain ⟨b, off, rfl, hc⟩ := ints_at hcell (by omega)
      have h1 := hc j (by omega)
      refine ⟨b, off, rfl, cell_lt h1, ?_⟩
      rw [h1, List.getD_eq_getElem?_getD, List.getD_eq_getElem?_getD, List.getElem?_take, if_pos hj']

theorem row_bound {w : World} {a : Option Addr} {n cap : Nat} {z : List Int} (h : IsRow .u8 w a n cap z) : n ≤ 9223372036854775807 := by
  rcases h with ⟨_, rfl, _, _⟩ | ⟨x, _, hl, hm, _⟩
  · omega
  · have : cap ≤ 9223372036854775807 := hm
    omega

/-- A struct of numbers by value: each of its cells reads at its field's type. -/
theorem agg_cells {H : Type} {enc : TypeId × Value → H} {P : Program} {w : World} {base b0 : Nat} {spare : Nat → Bool} {held : Bool} {r : Reach} {t : TypeId} {fs : Array Field} {v : Value} {d : DataW H} {p : List MemPlace} (hs : P.underlying t = some (.struct fs)) (hone : Go.Deep.oneCellFields P fs = true)
    (hv : Value.okWide P w r b0 t v) (h : DataW.Trod enc P w base spare held t v d p) :
    ∃ cs : Array Value, v = .agg cs ∧ cs.size = P.cellsOf t ∧ ∀ (i : Nat) (f : Field) (c : Value), fs[i]? = some f → cs[i]? = some c → ∃ n y, DataW.trod enc P w base spare held n f.type [c] = some y := by
  obtain ⟨cs, rfl, hsz⟩ := okWide_struct hs hv
  obtain ⟨fuel, hf⟩ := h
  obtain ⟨xs, n, _, _, hl, hlen, hr⟩ := DataW.trod_struct hs hf
  refine ⟨cs, rfl, hsz, fun i f c hi hc => ?_⟩
  obtain ⟨ho, hk⟩ := Go.Deep.hone_of hone i f hi
  have hlt : i < xs.length := by
    rw [hlen]; exact (Array.getElem?_eq_some_iff.1 hi).1
  have h1 := hr i f hi
  have e : (((Value.agg cs).cells.toList.drop f.offset).take (P.cellsOf f.type)) = [c] := by
    rw [ho, hk]
    have hc' : cs.toList[i]? = some c := by simpa using hc
    obtain ⟨hlt', e'⟩ := List.getElem?_eq_some_iff.1 hc'
    simp only [Value.cells]
    rw [List.drop_eq_getElem_cons hlt', e']
    rfl
  rw [e] at h1
  exact ⟨n, _, h1.trans (List.getElem?_eq_getElem hlt)⟩

theorem flat_field {cs : List Value} {o K g : Nat} {v : Value} (h : ((cs.drop o).take K)[g]? = some v) : cs[o + g]? = some v := by
  rw [List.getElem?_take] at h
  split at h
  · rw [List.getElem?_drop] at h; exact h
  · cases h
/-- A type whose values are so many cells of int64. -/
def FlatI (t K : Nat) : Prop := ∀ (H : Type) (enc : TypeId × Value → H) (w : World) (base : Nat) (spare : Nat → Bool) (held : Bool) (fuel : Nat) (cs : List Value) (y : DataW H × List MemPlace), DataW.trod enc Tryd.prog w base spare held fuel t cs = some y → cs.length = K ∧ ∀ f, f < K → ∃ z, cs[f]? = some (.int .i64 z)
theorem flat_int64 : FlatI 2 1 := by
  intro H enc w base spare held fuel cs y h
  obtain ⟨n, rfl, _, _⟩ := DataW.trod_int Tryd.underlying2 h
  exact ⟨rfl, fun f hf => ⟨n, by rw [show f = 0 by omega]; rfl⟩⟩
theorem flat_row {t e K : Nat} (ht : Tryd.prog.underlying t = some (.slice e)) (hc : Tryd.prog.cellsOf e = K) (hK : 0 < K) (hf : FlatI e K) {H : Type} {enc : TypeId × Value → H} {w : World} {base : Nat} {spare : Nat → Bool} {held : Bool} {fuel : Nat} {cs : List Value} {x : DataW H × List MemPlace} (h : DataW.trod enc Tryd.prog w base spare held fuel t cs = some x) :
    ∃ (a : Option Addr) (n cap : Nat) (zs : List Int), cs = [.slice a n cap] ∧ zs.length = n * K ∧ ArrI w a zs ∧ n ≤ cap ∧ n ≤ maxLen := by
  rcases DataW.trod_slice ht h with ⟨rfl, _⟩ | ⟨a, len, cap, elems, rest, n, _, rfl, _, _, hl, hm, hlen, hel, _, _⟩
  · exact ⟨none, 0, 0, [], rfl, by simp, fun j hj => by simp at hj, Nat.le_refl _, Nat.zero_le _⟩
  · have hh : ∀ j, j < len * K → ∃ z, w.cell? (a.add j) = some (.int .i64 z) := by
      intro j hj
      have hi : j / K < len := Nat.div_lt_of_lt_mul (by rw [Nat.mul_comm]; exact hj)
      have hg : j % K < K := Nat.mod_lt _ hK
      have he := hel (j / K) hi
      rw [List.getElem?_eq_getElem (by omega), hc, Option.bind_eq_some_iff] at he
      obtain ⟨cs', h1, h2⟩ := he
      obtain ⟨_, _, h3⟩ := World.cells?_some h1
      obtain ⟨z, hz⟩ := (hf H enc w base spare held n cs' _ h2).2 (j % K) hg
      refine ⟨z, ?_⟩
      have h4 := h3 (j % K) hg
      rw [hz, Addr.add_add, show j / K * K + j % K = j by rw [Nat.mul_comm]; exact Nat.div_add_mod j K] at h4
      exact h4
    have hz : ∃ zs : List Int, zs.length = len * K ∧ ∀ j, j < zs.length → w.cell? (a.add j) = some (.int .i64 (zs.getD j 0)) := by
      have hch : ∀ j, ∃ z : Int, j < len * K → w.cell? (a.add j) = some (.int .i64 z) := fun j => by
        by_cases hj : j < len * K
        · obtain ⟨z, hz⟩ := hh j hj; exact ⟨z, fun _ => hz⟩
        · exact ⟨0, fun h => absurd h hj⟩
      refine ⟨(List.range (len * K)).map (fun j => (hch j).choose), by simp, fun j hj => ?_⟩
      have hj' : j < len * K := by simpa using hj
      rw [(hch j).choose_spec hj']
      congr 2
      simp [hj']
    obtain ⟨zs, hzl, hzc⟩ := hz
    refine ⟨some a, len, cap, zs, rfl, hzl, ?_, hl, Nat.le_trans hl hm⟩
    intro j hj
    obtain ⟨b, off, e, hcell⟩ := ints_at hzc (by omega)
    have h1 := hcell j hj
    exact ⟨b, off, by rw [e], cell_lt h1, h1⟩
theorem flat_Stretch : FlatI 101 2 := by
  intro H enc w base spare held fuel cs y h
  obtain ⟨xs, n, _, _, hl, hx, hfs⟩ := DataW.trod_struct Tryd.underlying101 h
  have hcK : Tryd.prog.cellsOf 101 = 2 := by kernel_rfl
  refine ⟨by rw [hl, hcK], fun f hf => ?_⟩
  have hx' : xs.length = 2 := hx
  have f0 := hfs 0 _ rfl
  rw [List.getElem?_eq_getElem (by omega : 0 < xs.length)] at f0
  have g0 := (flat_int64 H enc w base spare held n _ _ f0).2
  have f1 := hfs 1 _ rfl
  rw [List.getElem?_eq_getElem (by omega : 1 < xs.length)] at f1
  have g1 := (flat_int64 H enc w base spare held n _ _ f1).2
  match f, hf with
  | 0, _ =>
    obtain ⟨z, hz⟩ := g0 0 (by omega)
    exact ⟨z, flat_field hz⟩
  | 1, _ =>
    obtain ⟨z, hz⟩ := g1 0 (by omega)
    exact ⟨z, flat_field hz⟩
theorem openRow_Stretch {H : Type} {enc : TypeId × Value → H} {w : World} {base : Nat} {spare : Nat → Bool} {held : Bool} {fuel : Nat} {cs : List Value} {x : DataW H × List MemPlace} (h : DataW.trod enc Tryd.prog w base spare held fuel 22 cs = some x) :
    ∃ (a : Option Addr) (n cap : Nat) (zs : List Int), cs = [.slice a n cap] ∧ zs.length = n * 2 ∧ ArrI w a zs ∧ n ≤ cap ∧ n ≤ maxLen :=
  flat_row Tryd.underlying22 (by kernel_rfl) (by decide) flat_Stretch h
theorem cellsSegment {α : Type} {cs : Array α} (h : cs.size = 12) : ∃ k0 k1 k2 k3 k4 k5 k6 k7 k8 k9 k10 k11, cs = #[k0, k1, k2, k3, k4, k5, k6, k7, k8, k9, k10, k11] := by
  obtain ⟨l⟩ := cs
  match l, h with
  | [k0, k1, k2, k3, k4, k5, k6, k7, k8, k9, k10, k11], _ => exact ⟨k0, k1, k2, k3, k4, k5, k6, k7, k8, k9, k10, k11, rfl⟩
theorem openSegment {H : Type} {enc : TypeId × Value → H} {w : World} {base b0 : Nat} {held : Bool} {r : Reach} {v : Value} {d : DataW H} {p : List MemPlace} (hv : Value.okWide Tryd.prog w r b0 25 v) (h : DataW.Trod enc Tryd.prog w base (fun _ => true) held 25 v d p) :
    ∃ (x0 : Int) (x1 : Int) (x2 : Int) (x3 : Int) (x4 : Int) (x5 : Int) (x6 : Int) (x7 : Bool) (x8 : Int) (x9 : Bool) (a0 : Option Addr) (n0 c0 : Nat) (z0 : List Int) (a1 : Option Addr) (n1 c1 : Nat) (z1 : List Int), v = .agg #[.int .i64 x0, .int .i64 x1, .int .i64 x2, .int .i64 x3, .int .i64 x4, .int .i64 x5, .int .i64 x6, .bool x7, .int .i64 x8, .bool x9, .slice a0 n0 c0, .slice a1 n1 c1] ∧ (z0.length = n0 * 2 ∧ ArrI w a0 z0 ∧ n0 ≤ c0 ∧ n0 ≤ maxLen) ∧ IsRow .u8 w a1 n1 c1 z1 := by
  obtain ⟨cs, rfl, hsz, hr⟩ := agg_cells Tryd.underlying25 (by kernel_rfl) hv h
  have hC : Tryd.prog.cellsOf 25 = 12 := by kernel_rfl
  obtain ⟨k0, k1, k2, k3, k4, k5, k6, k7, k8, k9, k10, k11, rfl⟩ := cellsSegment (hsz.trans hC)
  obtain ⟨m0, y0, r0⟩ := hr 0 _ k0 rfl rfl
  obtain ⟨x0, e0, _, _⟩ := DataW.trod_int Tryd.underlying2 r0
  simp at e0
  subst e0
  obtain ⟨m1, y1, r1⟩ := hr 1 _ k1 rfl rfl
  obtain ⟨x1, e1, _, _⟩ := DataW.trod_int Tryd.underlying2 r1
  simp at e1
  subst e1
  obtain ⟨m2, y2, r2⟩ := hr 2 _ k2 rfl rfl
  obtain ⟨x2, e2, _, _⟩ := DataW.trod_int Tryd.underlying2 r2
  simp at e2
  subst e2
  obtain ⟨m3, y3, r3⟩ := hr 3 _ k3 rfl rfl
  obtain ⟨x3, e3, _, _⟩ := DataW.trod_int Tryd.underlying2 r3
  simp at e3
  subst e3
  obtain ⟨m4, y4, r4⟩ := hr 4 _ k4 rfl rfl
  obtain ⟨x4, e4, _, _⟩ := DataW.trod_int Tryd.underlying2 r4
  simp at e4
  subst e4
  obtain ⟨m5, y5, r5⟩ := hr 5 _ k5 rfl rfl
  obtain ⟨x5, e5, _, _⟩ := DataW.trod_int Tryd.underlying2 r5
  simp at e5
  subst e5
  obtain ⟨m6, y6, r6⟩ := hr 6 _ k6 rfl rfl
  obtain ⟨x6, e6, _, _⟩ := DataW.trod_int Tryd.underlying2 r6
  simp at e6
  subst e6
  obtain ⟨m7, y7, r7⟩ := hr 7 _ k7 rfl rfl
  obtain ⟨x7, e7, _⟩ := DataW.trod_bool Tryd.underlying4 r7
  simp at e7
  subst e7
  obtain ⟨m8, y8, r8⟩ := hr 8 _ k8 rfl rfl
  obtain ⟨x8, e8, _, _⟩ := DataW.trod_int Tryd.underlying2 r8
  simp at e8
  subst e8
  obtain ⟨m9, y9, r9⟩ := hr 9 _ k9 rfl rfl
  obtain ⟨x9, e9, _⟩ := DataW.trod_bool Tryd.underlying4 r9
  simp at e9
  subst e9
  obtain ⟨m10, y10, r10⟩ := hr 10 _ k10 rfl rfl
  obtain ⟨m11, y11, r11⟩ := hr 11 _ k11 rfl rfl
  obtain ⟨a0, n0, c0, z0, rfl, w0⟩ : ∃ a len cap, ∃ zs : List Int, k10 = .slice a len cap ∧ (zs.length = len * 2 ∧ ArrI w a zs ∧ len ≤ cap ∧ len ≤ maxLen) := by
    obtain ⟨a, n, cap, zs, hcs, hz, hA, hle, hmx⟩ := openRow_Stretch r10
    simp at hcs
    exact ⟨a, n, cap, zs, hcs, hz, hA, hle, hmx⟩
  obtain ⟨a1, n1, c1, z1, rfl, w1⟩ : ∃ a len cap zs, k11 = .slice a len cap ∧ IsRow .u8 w a len cap zs := by
    rcases open_ints Tryd.underlying23 Tryd.underlying5 (by kernel_rfl) r11 with ⟨hcs, _⟩ | ⟨x, l, c, zs, hcs, _, hl, hm, hz, _, hcell, hwz⟩
    · simp at hcs
      exact ⟨none, 0, 0, [], hcs, .inl ⟨rfl, rfl, rfl, rfl⟩⟩
    · simp at hcs
      exact ⟨some x, l, c, zs, hcs, .inr ⟨_, rfl, hl, hm, by simpa using hz, hcell, hwz⟩⟩
  exact ⟨x0, x1, x2, x3, x4, x5, x6, x7, x8, x9, a0, n0, c0, z0, a1, n1, c1, z1, rfl, w0, w1⟩

theorem walkEncodeSegment (x0 x1 x2 x3 x4 x5 x6 : Int) (x7 : Bool) (x8 : Int) (x9 : Bool) (a0 : Option Addr) (n0 c0 : Nat) (a1 : Option Addr) (n1 c1 : Nat) (z0 z1 : List Int) (s d : Int) (w : World) (w0 : z0.length = n0 * 2 ∧ ArrI w a0 z0 ∧ n0 ≤ c0 ∧ n0 ≤ maxLen) (w1 : IsRow .u8 w a1 n1 c1 z1) (_ : (Lit.int .i64 s).wf = true) (_ : (Lit.int .i64 d).wf = true) (he : ErrT w) :
    Calls Tryd.prog 5 #[.agg #[.int .i64 x0, .int .i64 x1, .int .i64 x2, .int .i64 x3, .int .i64 x4, .int .i64 x5, .int .i64 x6, .bool x7, .int .i64 x8, .bool x9, .slice a0 n0 c0, .slice a1 n1 c1], .int .i64 s, .int .i64 d] w fun e w' => e = .returned (.bool true) ∧ Below w.heap.size w w' := by
  obtain ⟨y1, h1n, h1a⟩ := w1.arr
  exact walkEncodeSegment1 ErrT (fun _ _ h hb => h.below hb (Nat.le_refl _)) x0 x1 x2 x3 x4 x5 x6 x7 x8 x9 z0 y1 s d _ _ (specEncSeg x0 x1 x2 x3 x4 x5 x6 x7 x8 x9 z0 y1 s d _ n0 w0.1) (implEncSeg x0 x1 x2 x3 x4 x5 x6 x7 x8 x9 z0 y1 s d n0 w0.1) (sgL_len x0 x1 x2 x3 x4 x5 x6 x7 x8 x9 z0 y1 n0 s d) a0 n0 c0 a1 n1 c1 w w0.1 w0.2.1 w0.2.2.2 h1n h1a (row_bound w1) he

theorem own : ownKnob Tryd.prog.godebug = none := by kernel_rfl
theorem laidOut : laidOutB Tryd.prog = true := by kernel_rfl
theorem errG : Tryd.prog.globalNamed "errors.errorType" = some 0 := by kernel_rfl
theorem rtT : (Tryd.prog.cutTypes.find? (·.1 == "internal/reflectlite.rtype")).map (·.2) = some 174 := by kernel_rfl
theorem oneErr : ((List.range 227).filter fun t => Tryd.prog.rowNamed t [101, 114, 114, 111, 114]) = [68] := by kernel_rfl
theorem typesN : Tryd.prog.types.size = 227 := by kernel_rfl
/-- What the row's list gives: the variable holds the handle of the type 'error'. -/
theorem errOf {W : World} (h : laidMetH Tryd.prog Rows.fnExactEncodeSegmentRow.laid W) : ErrT W := by
  have h' : laidMet Tryd.prog [] W ∧ handlesMet Tryd.prog Rows.fnExactEncodeSegmentRow.laid W := h
  obtain ⟨name, u, ty, e1, e2, e3, e4, e5⟩ := h'.2 _ (List.mem_singleton.2 rfl)
  have en : name = [101, 114, 114, 111, 114] := (Option.some.inj e1).symm
  subst en
  obtain rfl := Option.some.inj (rtT.symm.trans e2)
  have hm : ty ∈ (List.range 227).filter fun t => Tryd.prog.rowNamed t [101, 114, 114, 111, 114] := List.mem_filter.2 ⟨List.mem_range.2 (by rw [← typesN]; exact e3), e4⟩
  rw [oneErr] at hm
  obtain rfl := List.mem_singleton.1 hm
  have hh : typeHandle Tryd.prog 68 = .pointer (some ⟨7, 68, none⟩) := by kernel_rfl
  rw [hh] at e5
  have hc : W.cell? ⟨0, 0, none⟩ = some (.iface 174 (.agg #[.pointer (some ⟨7, 68, none⟩)])) := by simpa using World.var?_cell errG e5 0
  exact ⟨World.block_lt_of_cell? W _ hc, hc⟩
theorem door_met (os : Os) (args : Array Value) : laidMetH Tryd.prog Rows.fnExactEncodeSegmentRow.laid ((World.doorLaid Tryd.prog 400 os).forCall (fun _ _ => 0) ⟨#[], args, []⟩).memory :=
  laidMetH_of_parts3 (fuel := 8) (laidMet_of_run' 8 (by kernel_rfl) (by kernel_rfl)) (by kernel_rfl) (by kernel_rfl)
set_option maxRecDepth 100000 in
theorem fnExactEncodeSegment_lifted (os : Os) (started : os.Started) (H : Type) (enc : TypeId × Value → H) :
    ReturnsInHanded {} Tryd.checked os 5 .any (fun w args => (Rows.fnExactEncodeSegmentSpec.pre enc Tryd.prog Tryd.f5 [] false w args ∧ laidMetH Tryd.prog Rows.fnExactEncodeSegmentRow.laid w) ∧ sizedMet enc Tryd.prog Tryd.f5 (OpenSpec.ofChange Rows.fnExactEncodeSegmentSpec) false w args) (Rows.fnExactEncodeSegmentSpec.post enc Tryd.prog Tryd.f5 false true false false) := by
  refine returnsInHanded_of_change_and (C := Tryd.checked) (X := fun w _ => laidMetH Tryd.prog Rows.fnExactEncodeSegmentRow.laid w) (fun _ _ _ hh h => h.of_heap hh) own started (by kernel_rfl) Tryd.func5
    (ChangeSpec.witness_shaped (enc := enc) (C := Tryd.checked) (os := os) (X := fun w _ => laidMetH Tryd.prog Rows.fnExactEncodeSegmentRow.laid w) false (World.doorLaid Tryd.prog 400 os) #[.agg #[.int .i64 0, .int .i64 0, .int .i64 0, .int .i64 0, .int .i64 0, .int .i64 0, .int .i64 0, .bool false, .int .i64 0, .bool false, .slice none 0 0, .slice none 0 0], .int .i64 0, .int .i64 0] 8 rfl (World.shaped_of_RefB (by kernel_rfl) (by kernel_rfl)) (by kernel_rfl) (by kernel_rfl) (by kernel_rfl) (door_met os _)) ?_
  intro W base args ds gs before hval0 hW _ _ hL _
  have hval : ∀ (j : Nat) t v, Tryd.f5.params[j]? = some t → args[j]? = some v → Value.okWide Tryd.prog W .any base t v := hval0
  have hW' := hW
  obtain ⟨p, q, hA0, hV, rfl, hfz, hnd⟩ := hW
  have hA : DataW.TrodAll enc Tryd.prog W 0 (fun _ => true) true Tryd.f5.params.toList args.toList ds p := hA0
  rw [Tryd.params5] at hA hval
  obtain ⟨v0, vs0, d0, ds0, p0, q0, hargs, rfl, rfl, h0, r0⟩ := trodAll_cons hA
  obtain ⟨v1, vs1, d1, ds1, p1, q1, rfl, rfl, rfl, h1, r1⟩ := trodAll_cons r0
  obtain ⟨v2, vs2, d2, ds2, p2, q2, rfl, rfl, rfl, h2, r2⟩ := trodAll_cons r1
  obtain ⟨rfl, rfl, rfl⟩ := trodAll_nil r2
  obtain rfl : args = #[v0, v1, v2] := by cases args; simp_all
  obtain ⟨rfl, rfl⟩ := trodVars_none hV
  have k0 := h0
  have lt0 : ∀ x ∈ p0, x.block < W.heap.size := by obtain ⟨m, hm⟩ := k0; exact DataW.trod_lt m _ _ _ hm
  obtain ⟨x0_0, x0_1, x0_2, x0_3, x0_4, x0_5, x0_6, x0_7, x0_8, x0_9, a0_0, n0_0, c0_0, z0_0, a0_1, n0_1, c0_1, z0_1, rfl, w0_0, w0_1⟩ := openSegment (hval 0 25 v0 rfl rfl) h0
  obtain ⟨a1, rfl, rfl, rfl, w1⟩ := open_int Tryd.underlying2 (hval 1 2 v1 rfl rfl) h1
  obtain ⟨a2, rfl, rfl, rfl, w2⟩ := open_int Tryd.underlying2 (hval 2 2 v2 rfl rfl) h2
  clear hA0 hval0
  refine (walkEncodeSegment x0_0 x0_1 x0_2 x0_3 x0_4 x0_5 x0_6 x0_7 x0_8 x0_9 a0_0 n0_0 c0_0 a0_1 n0_1 c0_1 z0_0 z0_1 a1 a2 W w0_0 w0_1 w1 w2 (errOf hL)).mono fun e W' ⟨he, bel⟩ => ?_
  subst he
  exact ⟨_, rfl, _, _, _, [], _, [], hW', trodAll_mk1 (shut_bool Tryd.underlying4 _), (trodAll_cons_mk (Below.trod laidOut (by kernel_rfl) (of_decide_eq_true (by kernel_rfl)) k0 bel lt0) (trodAll_cons_mk (shut_int Tryd.underlying2 w1) (trodAll_cons_mk (shut_int Tryd.underlying2 w2) trodAll_mk0))), rfl, bel.frame _, fun h => by cases h⟩
theorem fnExactEncodeSegment_said : Rows.FnExactEncodeSegmentSaid :=
  OpenClaim.holds_of_wide 5 Tryd.f5 rfl rfl rfl rfl rfl rfl rfl ⟨rfl, rfl, rfl, rfl, rfl⟩ rfl rfl rfl rfl rfl (by kernel_rfl) Tryd.func5 (by kernel_rfl)
    (of_decide_eq_true (by kernel_rfl)) (by unfold Func.isWrapper; first | (rw [if_pos (by decide +kernel)]; kernel_rfl) | (rw [if_neg (by decide +kernel)]; exact ⟨rfl, rfl⟩))
    (fun os started H enc _ => fnExactEncodeSegment_lifted os started H enc)
theorem fnExactEncodeSegment_plain (f : FuncId) (fn : Func) (hf : Tryd.pinned.checked.prog.funcNamed "loop.example/g00003/laws.FnExactEncodeSegment" = some f) (hfn : Tryd.pinned.checked.prog.funcs[f]? = some fn) :
    true = Tryd.pinned.checked.prog.looks [] ∧ ∀ (j : Nat) t, fn.params[j]? = some t → Tryd.pinned.checked.prog.wantsStandIn t = false := by
  obtain rfl : f = 5 := Option.some.inj ((show Tryd.prog.funcNamed "loop.example/g00003/laws.FnExactEncodeSegment" = some 5 by kernel_rfl).symm.trans hf) |>.symm
  obtain rfl : fn = Tryd.f5 := (Option.some.inj (Tryd.func5.symm.trans hfn)).symm
  refine ⟨by kernel_rfl, fun j t ht => ?_⟩
  rw [Tryd.params5] at ht
  have hm : t ∈ [25, 2, 2] := by simpa using Array.mem_of_getElem? ht
  have hall : ([25, 2, 2].all fun u => !Tryd.prog.wantsStandIn u) = true := by kernel_rfl
  exact (show Tryd.prog.wantsStandIn t = false by simpa using List.all_eq_true.1 hall t hm)
theorem fnExactEncodeSegment_holds : Rows.FnExactEncodeSegmentCardSaid :=
  Claim7.holds_tied_plain_at .later [] _ _ _ _ fnExactEncodeSegment_said (fun _ h => by cases h) (by kernel_rfl) (fun _ h => by cases h) fnExactEncodeSegment_row_tie rfl ⟨rfl, rfl⟩ (by kernel_rfl) rfl fnExactEncodeSegment_plain (by kernel_rfl)
end Go.Proofs.YthcmgnhfgplajaaDoor
