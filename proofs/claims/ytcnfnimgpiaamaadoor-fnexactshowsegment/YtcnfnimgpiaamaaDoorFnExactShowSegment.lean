/-
At every input the law FnExactShowSegment of the landed program answers true, and its arguments read afterwards as before.
Condition: the package-level tables that the card lists are as the program lays them (the card ties them to the text, within the pruned copy).
-/
import Derived.Test.YtcnfnimgpiaamaaDoorRows
import Derived.WalkKit
import Derived.ProofKit
import Derived.OpenShut
import Derived.Test.YtcnfnimgpiaamaaDoorSw9
import Derived.Test.YtcnfnimgpiaamaaDoorSvl
import Derived.Test.YtcnfnimgpiaamaaDoorL1ShowSegment
import Derived.Lib.SmallJoins
import Derived.ChangeOld
import Derived.ShutString
import Derived.Below
import Derived.Test.YtcnfnimgpiaamaaDoorCards
import Derived.Test.YtcnfnimgpiaamaaDoorTie
import Derived.Lib.LaidTab
import Derived.Stop.LaidErr
import Derived.LaidMore
import Derived.SevenTiedAt
import Derived.LaidLaws
import Derived.LaidHandle
namespace Go.Proofs.YtcnfnimgpiaamaaDoor
open Go.ChangeShapes Go.WideShapes Go.ChangeAt Go.RowKit
set_option linter.unusedVariables false
set_option maxRecDepth 100000
/-- What the walk is told of a slice of integers that came in: nil, or a row of 'cap' cells, the first 'len' of them its elements. -/
def IsRow (k : IntKind) (w : World) (a : Option Addr) (len cap : Nat) (zs : List Int) : Prop :=
  (a = none ∧ len = 0 ∧ cap = 0 ∧ zs = []) ∨
  ∃ x, a = some x ∧ len ≤ cap ∧ cap ≤ maxLen ∧ zs.length = cap ∧ (∀ i, i < zs.length → w.cell? (x.add i) = some (.int k (zs.getD i 0))) ∧ ∀ n ∈ zs, (Lit.int k n).wf = true
theorem cell_lt {w : World} {b o : Nat} {v : Value} (h : w.cell? ⟨b, o, none⟩ = some v) : b < w.heap.size := by
  by_cases hb : b < w.heap.size
  · exact hb
  · exfalso
    unfold World.cell? at h
    simp [Array.getElem?_eq_none (Nat.le_of_not_lt hb)] at h
theorem IsRow.arr {w : World} {a : Option Addr} {len cap : Nat} {zs : List Int} (h : IsRow .u8 w a len cap zs) : ∃ ys : List Int, ys.length = len ∧ Arr w a ys := by
  rcases h with ⟨rfl, rfl, rfl, rfl⟩ | ⟨x, rfl, hl, hm, hz, hcell, hwz⟩
  · exact ⟨[], rfl, by simp, fun j hj => by simp at hj⟩
  · refine ⟨zs.take len, by simp; omega, ?_, ?_⟩
    · intro z hz'
      have := hwz z (List.mem_of_mem_take hz')
      simpa [Lit.wf, IntKind.min, IntKind.max, IntKind.signed, IntKind.bits] using this
    · intro j hj
      have hj' : j < len := by simp at hj; omega
      obtain ⟨b, off, rfl, hc⟩ := ints_at hcell (by omega)
      have h1 := hc j (by omega)
      refine ⟨b, off, rfl, cell_lt h1, ?_⟩
      rw [h1, List.getD_eq_getElem?_getD, List.getD_eq_getElem?_getD, List.getElem?_take, if_pos hj']

theorem row_bound {w : World} {a : Option Addr} {n cap : Nat} {z : List Int} (h : IsRow .u8 w a n cap z) : n ≤ 9223372036854775807 := by
  rcases h with ⟨_, rfl, _, _⟩ | ⟨x, _, hl, hm, _⟩
  · omega
  · have : cap ≤ 9223372036854775807 := hm
    omega

/-- A struct of numbers by value: each of its cells reads at its field's type. -/
theorem agg_cells {H : Type} {enc : TypeId × Value → H} {P : Program} {w : World} {base b0 : Nat} {spare : Nat → Bool} {held : Bool} {r : Reach} {t : TypeId} {fs : Array Field} {v : Value} {d : DataW H} {p : List MemPlace} (hs : P.underlying t = some (.struct fs)) (hone : Go.Deep.oneCellFields P fs = true)
    (hv : Value.okWide P w r b0 t v) (h : DataW.Trod enc P w base spare held t v d p) :
    ∃ cs : Array Value, v = .agg cs ∧ cs.size = P.cellsOf t ∧ ∀ (i : Nat) (f : Field) (c : Value), fs[i]? = some f → cs[i]? = some c → ∃ n y, DataW.trod enc P w base spare held n f.type [c] = some y := by
  obtain ⟨cs, rfl, hsz⟩ := okWide_struct hs hv
  obtain ⟨fuel, hf⟩ := h
  obtain ⟨xs, n, _, _, hl, hlen, hr⟩ := DataW.trod_struct hs hf
  refine ⟨cs, rfl, hsz, fun i f c hi hc => ?_⟩
  obtain ⟨ho, hk⟩ := Go.Deep.hone_of hone i f hi
  have hlt : i < xs.length := by
    rw [hlen]; exact (Array.getElem?_eq_some_iff.1 hi).1
  have h1 := hr i f hi
  have e : (((Value.agg cs).cells.toList.drop f.offset).take (P.cellsOf f.type)) = [c] := by
    rw [ho, hk]
    have hc' : cs.toList[i]? = some c := by simpa using hc
    obtain ⟨hlt', e'⟩ := List.getElem?_eq_some_iff.1 hc'
    simp only [Value.cells]
    rw [List.drop_eq_getElem_cons hlt', e']
    rfl
  rw [e] at h1
  exact ⟨n, _, h1.trans (List.getElem?_eq_getElem hlt)⟩

theorem flat_field {cs : List Value} {o K g : Nat} {v : Value} (h : ((cs.drop o).take K)[g]? = some v) : cs[o + g]? = some v := by
  rw [List.getElem?_take] at h
  split at h
  · rw [List.getElem?_drop] at h; exact h
  · cases h
/-- A type whose values are so many cells of int64. -/
def FlatI (t K : Nat) : Prop := ∀ (H : Type) (enc : TypeId × Value → H) (w : World) (base : Nat) (spare : Nat → Bool) (held : Bool) (fuel : Nat) (cs : List Value) (y : DataW H × List MemPlace), DataW.trod enc Tryd.prog w base spare held fuel t cs = some y → cs.length = K ∧ ∀ f, f < K → ∃ z, cs[f]? = some (.int .i64 z)
theorem flat_int64 : FlatI 2 1 := by
  intro H enc w base spare held fuel cs y h
  obtain ⟨n, rfl, _, _⟩ := DataW.trod_int Tryd.underlying2 h
  exact ⟨rfl, fun f hf => ⟨n, by rw [show f = 0 by omega]; rfl⟩⟩
theorem flat_row {t e K : Nat} (ht : Tryd.prog.underlying t = some (.slice e)) (hc : Tryd.prog.cellsOf e = K) (hK : 0 < K) (hf : FlatI e K) {H : Type} {enc : TypeId × Value → H} {w : World} {base : Nat} {spare : Nat → Bool} {held : Bool} {fuel : Nat} {cs : List Value} {x : DataW H × List MemPlace} (h : DataW.trod enc Tryd.prog w base spare held fuel t cs = some x) :
    ∃ (a : Option Addr) (n cap : Nat) (zs : List Int), cs = [.slice a n cap] ∧ zs.length = n * K ∧ ArrI w a zs ∧ n ≤ cap ∧ n ≤ maxLen := by
  rcases DataW.trod_slice ht h with ⟨rfl, _⟩ | ⟨a, len, cap, elems, rest, n, _, rfl, _, _, hl, hm, hlen, hel, _, _⟩
  · exact ⟨none, 0, 0, [], rfl, by simp, fun j hj => by simp at hj, Nat.le_refl _, Nat.zero_le _⟩
  · have hh : ∀ j, j < len * K → ∃ z, w.cell? (a.add j) = some (.int .i64 z) := by
      intro j hj
      have hi : j / K < len := Nat.div_lt_of_lt_mul (by rw [Nat.mul_comm]; exact hj)
      have hg : j % K < K := Nat.mod_lt _ hK
      have he := hel (j / K) hi
      rw [List.getElem?_eq_getElem (by omega), hc, Option.bind_eq_some_iff] at he
      obtain ⟨cs', h1, h2⟩ := he
      obtain ⟨_, _, h3⟩ := World.cells?_some h1
      obtain ⟨z, hz⟩ := (hf H enc w base spare held n cs' _ h2).2 (j % K) hg
      refine ⟨z, ?_⟩
      have h4 := h3 (j % K) hg
      rw [hz, Addr.add_add, show j / K * K + j % K = j by rw [Nat.mul_comm]; exact Nat.div_add_mod j K] at h4
      exact h4
    have hz : ∃ zs : List Int, zs.length = len * K ∧ ∀ j, j < zs.length → w.cell? (a.add j) = some (.int .i64 (zs.getD j 0)) := by
      have hch : ∀ j, ∃ z : Int, j < len * K → w.cell? (a.add j) = some (.int .i64 z) := fun j => by
        by_cases hj : j < len * K
        · obtain ⟨z, hz⟩ := hh j hj; exact ⟨z, fun _ => hz⟩
        · exact ⟨0, fun h => absurd h hj⟩
      refine ⟨(List.range (len * K)).map (fun j => (hch j).choose), by simp, fun j hj => ?_⟩
      have hj' : j < len * K := by simpa using hj
      rw [(hch j).choose_spec hj']
      congr 2
      simp [hj']
    obtain ⟨zs, hzl, hzc⟩ := hz
    refine ⟨some a, len, cap, zs, rfl, hzl, ?_, hl, Nat.le_trans hl hm⟩
    intro j hj
    obtain ⟨b, off, e, hcell⟩ := ints_at hzc (by omega)
    have h1 := hcell j hj
    exact ⟨b, off, by rw [e], cell_lt h1, h1⟩
theorem flat_Stretch : FlatI 100 2 := by
  intro H enc w base spare held fuel cs y h
  obtain ⟨xs, n, _, _, hl, hx, hfs⟩ := DataW.trod_struct Tryd.underlying100 h
  have hcK : Tryd.prog.cellsOf 100 = 2 := by kernel_rfl
  refine ⟨by rw [hl, hcK], fun f hf => ?_⟩
  have hx' : xs.length = 2 := hx
  have f0 := hfs 0 _ rfl
  rw [List.getElem?_eq_getElem (by omega : 0 < xs.length)] at f0
  have g0 := (flat_int64 H enc w base spare held n _ _ f0).2
  have f1 := hfs 1 _ rfl
  rw [List.getElem?_eq_getElem (by omega : 1 < xs.length)] at f1
  have g1 := (flat_int64 H enc w base spare held n _ _ f1).2
  match f, hf with
  | 0, _ =>
    obtain ⟨z, hz⟩ := g0 0 (by omega)
    exact ⟨z, flat_field hz⟩
  | 1, _ =>
    obtain ⟨z, hz⟩ := g1 0 (by omega)
    exact ⟨z, flat_field hz⟩
theorem openRow_Stretch {H : Type} {enc : TypeId × Value → H} {w : World} {base : Nat} {spare : Nat → Bool} {held : Bool} {fuel : Nat} {cs : List Value} {x : DataW H × List MemPlace} (h : DataW.trod enc Tryd.prog w base spare held fuel 22 cs = some x) :
    ∃ (a : Option Addr) (n cap : Nat) (zs : List Int), cs = [.slice a n cap] ∧ zs.length = n * 2 ∧ ArrI w a zs ∧ n ≤ cap ∧ n ≤ maxLen :=
  flat_row Tryd.underlying22 (by kernel_rfl) (by decide) flat_Stretch h
theorem cellsSegment {α : Type} {cs : Array α} (h : cs.size = 12) : ∃ k0 k1 k2 k3 k4 k5 k6 k7 k8 k9 k10 k11, cs = #[k0, k1, k2, k3, k4, k5, k6, k7, k8, k9, k10, k11] := by
  obtain ⟨l⟩ := cs
  match l, h with
  | [k0, k1, k2, k3, k4, k5, k6, k7, k8, k9, k10, k11], _ => exact ⟨k0, k1, k2, k3, k4, k5, k6, k7, k8, k9, k10, k11, rfl⟩
theorem openSegment {H : Type} {enc : TypeId × Value → H} {w : World} {base b0 : Nat} {held : Bool} {r : Reach} {v : Value} {d : DataW H} {p : List MemPlace} (hv : Value.okWide Tryd.prog w r b0 25 v) (h : DataW.Trod enc Tryd.prog w base (fun _ => true) held 25 v d p) :
    ∃ (x0 : Int) (x1 : Int) (x2 : Int) (x3 : Int) (x4 : Int) (x5 : Int) (x6 : Int) (x7 : Bool) (x8 : Int) (x9 : Bool) (a0 : Option Addr) (n0 c0 : Nat) (z0 : List Int) (a1 : Option Addr) (n1 c1 : Nat) (z1 : List Int), v = .agg #[.int .i64 x0, .int .i64 x1, .int .i64 x2, .int .i64 x3, .int .i64 x4, .int .i64 x5, .int .i64 x6, .bool x7, .int .i64 x8, .bool x9, .slice a0 n0 c0, .slice a1 n1 c1] ∧ (z0.length = n0 * 2 ∧ ArrI w a0 z0 ∧ n0 ≤ c0 ∧ n0 ≤ maxLen) ∧ IsRow .u8 w a1 n1 c1 z1 := by
  obtain ⟨cs, rfl, hsz, hr⟩ := agg_cells Tryd.underlying25 (by kernel_rfl) hv h
  have hC : Tryd.prog.cellsOf 25 = 12 := by kernel_rfl
  obtain ⟨k0, k1, k2, k3, k4, k5, k6, k7, k8, k9, k10, k11, rfl⟩ := cellsSegment (hsz.trans hC)
  obtain ⟨m0, y0, r0⟩ := hr 0 _ k0 rfl rfl
  obtain ⟨x0, e0, _, _⟩ := DataW.trod_int Tryd.underlying2 r0
  simp at e0
  subst e0
  obtain ⟨m1, y1, r1⟩ := hr 1 _ k1 rfl rfl
  obtain ⟨x1, e1, _, _⟩ := DataW.trod_int Tryd.underlying2 r1
  simp at e1
  subst e1
  obtain ⟨m2, y2, r2⟩ := hr 2 _ k2 rfl rfl
  obtain ⟨x2, e2, _, _⟩ := DataW.trod_int Tryd.underlying2 r2
  simp at e2
  subst e2
  obtain ⟨m3, y3, r3⟩ := hr 3 _ k3 rfl rfl
  obtain ⟨x3, e3, _, _⟩ := DataW.trod_int Tryd.underlying2 r3
  simp at e3
  subst e3
  obtain ⟨m4, y4, r4⟩ := hr 4 _ k4 rfl rfl
  obtain ⟨x4, e4, _, _⟩ := DataW.trod_int Tryd.underlying2 r4
  simp at e4
  subst e4
  obtain ⟨m5, y5, r5⟩ := hr 5 _ k5 rfl rfl
  obtain ⟨x5, e5, _, _⟩ := DataW.trod_int Tryd.underlying2 r5
  simp at e5
  subst e5
  obtain ⟨m6, y6, r6⟩ := hr 6 _ k6 rfl rfl
  obtain ⟨x6, e6, _, _⟩ := DataW.trod_int Tryd.underlying2 r6
  simp at e6
  subst e6
  obtain ⟨m7, y7, r7⟩ := hr 7 _ k7 rfl rfl
  obtain ⟨x7, e7, _⟩ := DataW.trod_bool Tryd.underlying4 r7
  simp at e7
  subst e7
  obtain ⟨m8, y8, r8⟩ := hr 8 _ k8 rfl rfl
  obtain ⟨x8, e8, _, _⟩ := DataW.trod_int Tryd.underlying2 r8
  simp at e8
  subst e8
  obtain ⟨m9, y9, r9⟩ := hr 9 _ k9 rfl rfl
  obtain ⟨x9, e9, _⟩ := DataW.trod_bool Tryd.underlying4 r9
  simp at e9
  subst e9
  obtain ⟨m10, y10, r10⟩ := hr 10 _ k10 rfl rfl
  obtain ⟨m11, y11, r11⟩ := hr 11 _ k11 rfl rfl
  obtain ⟨a0, n0, c0, z0, rfl, w0⟩ : ∃ a len cap, ∃ zs : List Int, k10 = .slice a len cap ∧ (zs.length = len * 2 ∧ ArrI w a zs ∧ len ≤ cap ∧ len ≤ maxLen) := by
    obtain ⟨a, n, cap, zs, hcs, hz, hA, hle, hmx⟩ := openRow_Stretch r10
    simp at hcs
    exact ⟨a, n, cap, zs, hcs, hz, hA, hle, hmx⟩
  obtain ⟨a1, n1, c1, z1, rfl, w1⟩ : ∃ a len cap zs, k11 = .slice a len cap ∧ IsRow .u8 w a len cap zs := by
    rcases open_ints Tryd.underlying23 Tryd.underlying5 (by kernel_rfl) r11 with ⟨hcs, _⟩ | ⟨x, l, c, zs, hcs, _, hl, hm, hz, _, hcell, hwz⟩
    · simp at hcs
      exact ⟨none, 0, 0, [], hcs, .inl ⟨rfl, rfl, rfl, rfl⟩⟩
    · simp at hcs
      exact ⟨some x, l, c, zs, hcs, .inr ⟨_, rfl, hl, hm, by simpa using hz, hcell, hwz⟩⟩
  exact ⟨x0, x1, x2, x3, x4, x5, x6, x7, x8, x9, a0, n0, c0, z0, a1, n1, c1, z1, rfl, w0, w1⟩

theorem shT_size (x0 x1 x2 x3 x4 x5 x6 : Int) (x7 : Bool) (x8 : Int) (x9 : Bool) (n0 : Nat) (z zs : List Int) (p0 : x0 ≤ 65535) (p1 : x1 ≤ 65535) (p2 : x2 ≤ 4294967295) (p3 : x3 ≤ 4294967295) (p5 : x5 ≤ 4294967295) (p6 : x6 ≤ 4294967295) (p8 : x8 ≤ 4294967295) (p3n : n0 ≤ 3) (hz : ∀ q, z.getD q 0 ≤ 4294967295) (hl : zs.length ≤ 4000) : (shT x0 x1 x2 x3 x4 x5 x6 x7 x8 x9 n0 z zs).size ≤ 100000 := by
  have a := shA_size x0 x1 p0 p1
  have b := shB_size x4 (shA x0 x1)
  have c := shF_size x4 (shB x4 (shA x0 x1)) 6
  have d := shC_size x2 x3 x5 (shF x4 (shB x4 (shA x0 x1)) 6) p2 p3 p5
  have e := shM_size x6 (shC x2 x3 x5 (shF x4 (shB x4 (shA x0 x1)) 6)) p6
  have f := shS_size x7 x8 (shM x6 (shC x2 x3 x5 (shF x4 (shB x4 (shA x0 x1)) 6))) p8
  have g := shO_size x9 (shS x7 x8 (shM x6 (shC x2 x3 x5 (shF x4 (shB x4 (shA x0 x1)) 6))))
  have k := shK_size z (shO x9 (shS x7 x8 (shM x6 (shC x2 x3 x5 (shF x4 (shB x4 (shA x0 x1)) 6))))) hz n0
  unfold shT shD
  split
  · omega
  · have sx : (strB (hexL zs)).size ≤ 8000 := by rw [strB_size, hexL_len]; omega
    simp only [ByteArray.size_append, lit_sz, List.size_toArray, List.length_cons, List.length_nil]
    omega
theorem sgWd_ne (x0 x1 x2 x3 x4 x5 x6 : Int) (x7 : Bool) (x8 : Int) (x9 : Bool) (n0 : Nat) (z zs : List Int) : sgWd x0 x1 x2 x3 x4 x5 x6 x7 x8 x9 n0 z zs ≠ [] := by unfold sgWd wdA; simp
theorem sgWd_len (x0 x1 x2 x3 x4 x5 x6 : Int) (x7 : Bool) (x8 : Int) (x9 : Bool) (n0 : Nat) (z zs : List Int) (h : n0 ≤ 3) : (sgWd x0 x1 x2 x3 x4 x5 x6 x7 x8 x9 n0 z zs).length ≤ 1000 := by
  have k := wdK_len z n0
  have a : (wdM x6).length ≤ 2 := by unfold wdM; split <;> simp
  have b : (wdS x7 x8).length ≤ 2 := by unfold wdS; split <;> simp
  have c : (wdO x9).length ≤ 1 := by unfold wdO; split <;> simp
  have d : (wdD zs).length ≤ 2 := by unfold wdD; split <;> simp
  have e : (wdA x0 x1 x4 x2 x3 x5).length = 5 := rfl
  unfold sgWd
  simp only [List.length_append]
  omega
theorem implShowS_bad (x0 x1 x2 x3 x4 x5 x6 : Int) (x7 : Bool) (x8 : Int) (x9 : Bool) (a0 : Option Addr) (n0 c0 : Nat) (a1 : Option Addr) (n1 c1 : Nat) (z : List Int) (w : World) (hz : z.length = n0 * 2) (ha : ArrI w a0 z) (m0 : n0 ≤ 1048576) (h : sgOK x0 x1 x2 x3 x4 x5 x6 x7 x8 n0 z = false ∨ 4000 < n1) :
    Calls Tryd.prog 10 #[.agg #[.int .i64 x0, .int .i64 x1, .int .i64 x2, .int .i64 x3, .int .i64 x4, .int .i64 x5, .int .i64 x6, .bool x7, .int .i64 x8, .bool x9, .slice a0 n0 c0, .slice a1 n1 c1]] w fun e w' => e = .returned (.tuple #[.string ⟨#[]⟩, .int .i64 1]) ∧ Below w.heap.size w w' := by
  have H0 : Hid (ShW w #[.int .i64 x0, .int .i64 x1, .int .i64 x2, .int .i64 x3, .int .i64 x4, .int .i64 x5, .int .i64 x6, .bool x7, .int .i64 x8, .bool x9, .slice a0 n0 c0, .slice a1 n1 c1] (w.alloc (.cells #[.int .i64 x0, .int .i64 x1, .int .i64 x2, .int .i64 x3, .int .i64 x4, .int .i64 x5, .int .i64 x6, .bool x7, .int .i64 x8, .bool x9, .slice a0 n0 c0, .slice a1 n1 c1] sgT))) := hide ⟨(Below.refl w.heap.size w).alloc (Nat.le_refl _) _, heap_alloc_new _ _⟩
  have HA := hide ha
  have HZ := hide hz
  have HH := hide h
  clear hz ha h
  go_enter Tryd.func10, Tryd.ntmps10
  go_upto_region 1 with fail
  generalize w.alloc (.cells #[.int .i64 x0, .int .i64 x1, .int .i64 x2, .int .i64 x3, .int .i64 x4, .int .i64 x5, .int .i64 x6, .bool x7, .int .i64 x8, .bool x9, .slice a0 n0 c0, .slice a1 n1 c1] sgT) = W0 at *
  have k0 := H0.out.2.cell 0 _ rfl; have k1 := H0.out.2.cell 1 _ rfl; have k2 := H0.out.2.cell 2 _ rfl; have k3 := H0.out.2.cell 3 _ rfl; have k4 := H0.out.2.cell 4 _ rfl; have k5 := H0.out.2.cell 5 _ rfl; have k6 := H0.out.2.cell 6 _ rfl; have k7 := H0.out.2.cell 7 _ rfl; have k8 := H0.out.2.cell 8 _ rfl; have k9 := H0.out.2.cell 9 _ rfl; have k10 := H0.out.2.cell 10 _ rfl; have k11 := H0.out.2.cell 11 _ rfl
  go_wp2_with fail
  refine (validSegment_walk x0 x1 x2 x3 x4 x5 x6 x7 x8 x9 a0 n0 c0 a1 n1 c1 z W0 HZ.out (HA.out.below H0.out.1 (Nat.le_refl _)) m0).mono ?_
  rintro e w2 ⟨rfl, hb2⟩
  have H2 := hide (H0.out.next hb2)
  clear hb2 H0 k0 k1 k2 k3 k4 k5 k6 k7 k8 k9 k10 k11
  have k11 := H2.out.2.cell 11 _ rfl
  cases hs : sgOK x0 x1 x2 x3 x4 x5 x6 x7 x8 n0 z with
  | false =>
    go_wp2_with fail
    go_ret2
    exact ⟨rfl, H2.out.1⟩
  | true =>
    have hl2 : (4000 : Int) < (n1 : Int) := by
      rcases HH.out with h | h
      · rw [hs] at h; cases h
      · omega
    go_wp2_with fail
    go_ret2
    exact ⟨rfl, H2.out.1⟩
set_option maxHeartbeats 4000000 in
theorem implShowS_ok (x0 x1 x2 x3 x4 x5 x6 : Int) (x7 : Bool) (x8 : Int) (x9 : Bool) (a0 : Option Addr) (n0 c0 : Nat) (a1 : Option Addr) (n1 c1 : Nat) (z zs : List Int) (w : World) (hz : z.length = n0 * 2) (ha : ArrI w a0 z) (m0 : n0 ≤ 1048576) (hn : zs.length = n1) (hb : Arr w a1 zs) (h : sgOK x0 x1 x2 x3 x4 x5 x6 x7 x8 n0 z = true) (hl : n1 ≤ 4000) (ht : Lib.TabBelow Tryd.prog w.heap.size w "internal/strconv.uint64pow10" .u64 Lib.pow10Tab) :
    Calls Tryd.prog 10 #[.agg #[.int .i64 x0, .int .i64 x1, .int .i64 x2, .int .i64 x3, .int .i64 x4, .int .i64 x5, .int .i64 x6, .bool x7, .int .i64 x8, .bool x9, .slice a0 n0 c0, .slice a1 n1 c1]] w fun e w' => e = .returned (.tuple #[.string (shT x0 x1 x2 x3 x4 x5 x6 x7 x8 x9 n0 z zs), .int .i64 0]) ∧ Below w.heap.size w w' := by
  obtain ⟨p0, p1, p2, p3, p4, p5, p6, p8, p3n, pS⟩ := sgOK_parts h
  have hsz := shT_size x0 x1 x2 x3 x4 x5 x6 x7 x8 x9 n0 z zs (by omega) (by omega) (by omega) (by omega) (by omega) (by omega) (by omega) p3n (fun q => (sg_zb pS q).2) (by omega)
  have HTW := hide (shT_words x0 x1 x2 x3 x4 x5 x6 x7 x8 x9 n0 z zs p4.1 p4.2)
  rw [HTW.out] at hsz
  have HJ : Hid ((Lib.join ((sgWd x0 x1 x2 x3 x4 x5 x6 x7 x8 x9 n0 z zs).map (·.data.toList)) [32]).length ≤ 1000000) := hide (by
    have : (⟨(jw (sgWd x0 x1 x2 x3 x4 x5 x6 x7 x8 x9 n0 z zs)).toArray⟩ : ByteArray).size = (jw (sgWd x0 x1 x2 x3 x4 x5 x6 x7 x8 x9 n0 z zs)).length := bytes_len _
    rw [this] at hsz
    show (jw (sgWd x0 x1 x2 x3 x4 x5 x6 x7 x8 x9 n0 z zs)).length ≤ 1000000
    omega)
  have HNE := hide (sgWd_ne x0 x1 x2 x3 x4 x5 x6 x7 x8 x9 n0 z zs)
  have HLE := hide (sgWd_len x0 x1 x2 x3 x4 x5 x6 x7 x8 x9 n0 z zs p3n)
  have CW := hide (fun W (hbw : Below w.heap.size w W) => segWords_walk x0 x1 x2 x3 x4 x5 x6 x7 x8 x9 a0 n0 c0 a1 n1 c1 z zs W hz (ha.below hbw (Nat.le_refl _)) m0 hn (hb.below hbw (Nat.le_refl _)) h hl (fun W' hW' => ht W' (hbw.trans (hW'.mono hbw.size))))
  have H0 : Hid (ShW w #[.int .i64 x0, .int .i64 x1, .int .i64 x2, .int .i64 x3, .int .i64 x4, .int .i64 x5, .int .i64 x6, .bool x7, .int .i64 x8, .bool x9, .slice a0 n0 c0, .slice a1 n1 c1] (w.alloc (.cells #[.int .i64 x0, .int .i64 x1, .int .i64 x2, .int .i64 x3, .int .i64 x4, .int .i64 x5, .int .i64 x6, .bool x7, .int .i64 x8, .bool x9, .slice a0 n0 c0, .slice a1 n1 c1] sgT))) := hide ⟨(Below.refl w.heap.size w).alloc (Nat.le_refl _) _, heap_alloc_new _ _⟩
  have HA := hide ha
  have HZ := hide hz
  have hl2 : ¬ (4000 : Int) < (n1 : Int) := by omega
  clear hz ha hn hb ht hsz p0 p1 p2 p3 p4 p5 p6 p8 p3n pS
  go_enter Tryd.func10, Tryd.ntmps10
  go_upto_region 1 with fail
  generalize w.alloc (.cells #[.int .i64 x0, .int .i64 x1, .int .i64 x2, .int .i64 x3, .int .i64 x4, .int .i64 x5, .int .i64 x6, .bool x7, .int .i64 x8, .bool x9, .slice a0 n0 c0, .slice a1 n1 c1] sgT) = W0 at *
  have k0 := H0.out.2.cell 0 _ rfl; have k1 := H0.out.2.cell 1 _ rfl; have k2 := H0.out.2.cell 2 _ rfl; have k3 := H0.out.2.cell 3 _ rfl; have k4 := H0.out.2.cell 4 _ rfl; have k5 := H0.out.2.cell 5 _ rfl; have k6 := H0.out.2.cell 6 _ rfl; have k7 := H0.out.2.cell 7 _ rfl; have k8 := H0.out.2.cell 8 _ rfl; have k9 := H0.out.2.cell 9 _ rfl; have k10 := H0.out.2.cell 10 _ rfl; have k11 := H0.out.2.cell 11 _ rfl
  go_wp2_with fail
  refine (validSegment_walk x0 x1 x2 x3 x4 x5 x6 x7 x8 x9 a0 n0 c0 a1 n1 c1 z W0 HZ.out (HA.out.below H0.out.1 (Nat.le_refl _)) m0).mono ?_
  rw [h]
  rintro e w2 ⟨rfl, hb2⟩
  have H2 := hide (H0.out.next hb2)
  clear hb2 H0 k0 k1 k2 k3 k4 k5 k6 k7 k8 k9 k10 k11 h
  have k0 := H2.out.2.cell 0 _ rfl; have k1 := H2.out.2.cell 1 _ rfl; have k2 := H2.out.2.cell 2 _ rfl; have k3 := H2.out.2.cell 3 _ rfl; have k4 := H2.out.2.cell 4 _ rfl; have k5 := H2.out.2.cell 5 _ rfl; have k6 := H2.out.2.cell 6 _ rfl; have k7 := H2.out.2.cell 7 _ rfl; have k8 := H2.out.2.cell 8 _ rfl; have k9 := H2.out.2.cell 9 _ rfl; have k10 := H2.out.2.cell 10 _ rfl; have k11 := H2.out.2.cell 11 _ rfl
  go_wp2_with fail
  refine (CW.out _ H2.out.1).mono ?_
  rintro e w3 ⟨u, rfl, ho, hb3⟩
  have HO := hide ho
  have HB3 := hide (H2.out.1.trans (hb3.mono H2.out.1.size))
  clear ho hb3 CW H2 k0 k1 k2 k3 k4 k5 k6 k7 k8 k9 k10 k11
  have CJ := hide (join_walk _ u _ (⟨#[32]⟩ : ByteArray) w3 HO.out HNE.out HLE.out HJ.out)
  obtain ⟨au, nu, cu, rfl⟩ : ∃ (au : Option Addr) (nu cu : Nat), u = .slice au nu cu := by
    obtain ⟨g, cap, e, _⟩ := HO.out.form HNE.out
    exact ⟨_, _, _, e⟩
  go_wp2_with fail
  refine CJ.out.mono ?_
  rintro e w4 ⟨rfl, hb4⟩
  have HB4 := hide (HB3.out.trans (hb4.mono HB3.out.size))
  clear hb4 CJ
  go_wp2_with fail
  go_ret2
  exact ⟨by rw [HTW.out]; rfl, HB4.out⟩
def shCc (x0 x1 x2 x3 x4 x5 x6 : Int) (x7 : Bool) (x8 : Int) (z zs : List Int) : Int := if sgOK x0 x1 x2 x3 x4 x5 x6 x7 x8 (z.length / 2) z = true ∧ zs.length ≤ 4000 then 0 else 1
def shR (x0 x1 x2 x3 x4 x5 x6 : Int) (x7 : Bool) (x8 : Int) (x9 : Bool) (z zs : List Int) : ByteArray := if sgOK x0 x1 x2 x3 x4 x5 x6 x7 x8 (z.length / 2) z = true ∧ zs.length ≤ 4000 then shT x0 x1 x2 x3 x4 x5 x6 x7 x8 x9 (z.length / 2) z zs else ⟨#[]⟩
def TabPre (w : World) : Prop := Lib.TabBelow Tryd.prog w.heap.size w "internal/strconv.uint64pow10" .u64 Lib.pow10Tab
theorem tab_laterS {w w' : World} (h : TabPre w) (hb : Below w.heap.size w w') : TabPre w' := fun W' hW' => h W' (hb.trans (hW'.mono hb.size))
theorem specShowSeg (x0 x1 x2 x3 x4 x5 x6 : Int) (x7 : Bool) (x8 : Int) (x9 : Bool) (z zs : List Int) : ShowSegmentP 8 TabPre x0 x1 x2 x3 x4 x5 x6 x7 x8 x9 z zs (shR x0 x1 x2 x3 x4 x5 x6 x7 x8 x9 z zs) (shCc x0 x1 x2 x3 x4 x5 x6 x7 x8 z zs) := by
  intro a0 n0 c0 a1 n1 c1 W hz ha _ m0 hn hb _ _ _
  have e2 : z.length / 2 = n0 := by omega
  unfold shR shCc
  rw [e2, hn]
  cases h : sgOK x0 x1 x2 x3 x4 x5 x6 x7 x8 n0 z with
  | false =>
    rw [if_neg (by simp), if_neg (by simp)]
    exact specShowS_bad x0 x1 x2 x3 x4 x5 x6 x7 x8 x9 a0 n0 c0 a1 n1 c1 z zs W hz ha m0 hn hb h
  | true =>
    by_cases hl : n1 ≤ 4000
    · rw [if_pos ⟨rfl, hl⟩, if_pos ⟨rfl, hl⟩]
      exact specShowS_ok x0 x1 x2 x3 x4 x5 x6 x7 x8 x9 a0 n0 c0 a1 n1 c1 z zs W hz ha m0 hn hb h hl
    · rw [if_neg (fun e => hl e.2), if_neg (fun e => hl e.2)]
      exact specShowS_long x0 x1 x2 x3 x4 x5 x6 x7 x8 x9 a0 n0 c0 a1 n1 c1 z zs W hz ha m0 hn hb h (by omega)
theorem implShowSeg (x0 x1 x2 x3 x4 x5 x6 : Int) (x7 : Bool) (x8 : Int) (x9 : Bool) (z zs : List Int) : ShowSegmentP 10 TabPre x0 x1 x2 x3 x4 x5 x6 x7 x8 x9 z zs (shR x0 x1 x2 x3 x4 x5 x6 x7 x8 x9 z zs) (shCc x0 x1 x2 x3 x4 x5 x6 x7 x8 z zs) := by
  intro a0 n0 c0 a1 n1 c1 W hz ha _ m0 hn hb _ _ ht
  have e2 : z.length / 2 = n0 := by omega
  unfold shR shCc
  rw [e2, hn]
  cases h : sgOK x0 x1 x2 x3 x4 x5 x6 x7 x8 n0 z with
  | false =>
    rw [if_neg (by simp), if_neg (by simp)]
    exact implShowS_bad x0 x1 x2 x3 x4 x5 x6 x7 x8 x9 a0 n0 c0 a1 n1 c1 z W hz ha m0 (.inl h)
  | true =>
    by_cases hl : n1 ≤ 4000
    · rw [if_pos ⟨rfl, hl⟩, if_pos ⟨rfl, hl⟩]
      exact implShowS_ok x0 x1 x2 x3 x4 x5 x6 x7 x8 x9 a0 n0 c0 a1 n1 c1 z zs W hz ha m0 hn hb h hl ht
    · rw [if_neg (fun e => hl e.2), if_neg (fun e => hl e.2)]
      exact implShowS_bad x0 x1 x2 x3 x4 x5 x6 x7 x8 x9 a0 n0 c0 a1 n1 c1 z W hz ha m0 (.inr (by omega))
theorem walkShowSegment (x0 x1 x2 x3 x4 x5 x6 : Int) (x7 : Bool) (x8 : Int) (x9 : Bool) (a0 : Option Addr) (n0 c0 : Nat) (a1 : Option Addr) (n1 c1 : Nat) (z0 z1 : List Int) (w : World) (w0 : z0.length = n0 * 2 ∧ ArrI w a0 z0 ∧ n0 ≤ c0 ∧ n0 ≤ maxLen) (w1 : IsRow .u8 w a1 n1 c1 z1) (ht : Lib.TabIs Tryd.prog w "internal/strconv.uint64pow10" .u64 Lib.pow10Tab) :
    Calls Tryd.prog 3 #[.agg #[.int .i64 x0, .int .i64 x1, .int .i64 x2, .int .i64 x3, .int .i64 x4, .int .i64 x5, .int .i64 x6, .bool x7, .int .i64 x8, .bool x9, .slice a0 n0 c0, .slice a1 n1 c1]] w fun e w' => e = .returned (.bool true) ∧ Below w.heap.size w w' := by
  obtain ⟨y1, h1n, h1a⟩ := w1.arr
  exact walkShowSegment1 TabPre (fun _ _ h hb => tab_laterS h hb) x0 x1 x2 x3 x4 x5 x6 x7 x8 x9 z0 y1 _ _ (specShowSeg x0 x1 x2 x3 x4 x5 x6 x7 x8 x9 z0 y1) (implShowSeg x0 x1 x2 x3 x4 x5 x6 x7 x8 x9 z0 y1) a0 n0 c0 a1 n1 c1 w w0.1 w0.2.1 w0.2.2.2 h1n h1a (row_bound w1) (Lib.tabBelow_of_tabIs ht)

theorem own : ownKnob Tryd.prog.godebug = none := by kernel_rfl
theorem laidOut : laidOutB Tryd.prog = true := by kernel_rfl
theorem gTab : Tryd.prog.globalNamed "internal/strconv.uint64pow10" = some 2 := by kernel_rfl
theorem gTabType : (Tryd.prog.globals[2]?).map (·.type) = some 192 := by kernel_rfl
theorem cellsT : Tryd.prog.cellsOf 192 = 20 := by kernel_rfl
theorem cellsE : Tryd.prog.cellsOf 88 = 1 := by kernel_rfl
/-- What the row's list gives: the table's cells hold its numbers. -/
theorem tabOf {W : World} (h : laidMetH Tryd.prog Rows.fnExactShowSegmentRow.laid W) : Lib.TabIs Tryd.prog W "internal/strconv.uint64pow10" .u64 Lib.pow10Tab := by
  have h' : laidMet Tryd.prog Rows.fnExactShowSegmentRow.laid W := h
  exact Lib.tabIs_of_head gTab gTabType Tryd.underlying192 Tryd.underlying88 cellsE cellsT h'.tail.tail
theorem door_met (os : Os) (args : Array Value) : laidMetH Tryd.prog Rows.fnExactShowSegmentRow.laid ((World.doorLaid Tryd.prog 400 os).forCall (fun _ _ => 0) ⟨#[], args, []⟩).memory :=
  laidMetH_of_parts3 (fuel := 8) (laidMet_of_run' 8 (by kernel_rfl) (by kernel_rfl)) (by kernel_rfl) (by kernel_rfl)
set_option maxRecDepth 100000 in
theorem fnExactShowSegment_lifted (os : Os) (started : os.Started) (H : Type) (enc : TypeId × Value → H) :
    ReturnsInHanded {} Tryd.checked os 3 .any (fun w args => (Rows.fnExactShowSegmentSpec.pre enc Tryd.prog Tryd.f3 [] false w args ∧ laidMetH Tryd.prog Rows.fnExactShowSegmentRow.laid w) ∧ sizedMet enc Tryd.prog Tryd.f3 (OpenSpec.ofChange Rows.fnExactShowSegmentSpec) false w args) (Rows.fnExactShowSegmentSpec.post enc Tryd.prog Tryd.f3 false true false false) := by
  refine returnsInHanded_of_change_and (C := Tryd.checked) (X := fun w _ => laidMetH Tryd.prog Rows.fnExactShowSegmentRow.laid w) (fun _ _ _ hh h => h.of_heap hh) own started (by kernel_rfl) Tryd.func3
    (ChangeSpec.witness_shaped (enc := enc) (C := Tryd.checked) (os := os) (X := fun w _ => laidMetH Tryd.prog Rows.fnExactShowSegmentRow.laid w) false (World.doorLaid Tryd.prog 400 os) #[.agg #[.int .i64 0, .int .i64 0, .int .i64 0, .int .i64 0, .int .i64 0, .int .i64 0, .int .i64 0, .bool false, .int .i64 0, .bool false, .slice none 0 0, .slice none 0 0]] 8 rfl (World.shaped_of_RefB (by kernel_rfl) (by kernel_rfl)) (by kernel_rfl) (by kernel_rfl) (by kernel_rfl) (door_met os _)) ?_
  intro W base args ds gs before hval0 hW _ _ hL _
  have hval : ∀ (j : Nat) t v, Tryd.f3.params[j]? = some t → args[j]? = some v → Value.okWide Tryd.prog W .any base t v := hval0
  have hW' := hW
  obtain ⟨p, q, hA0, hV, rfl, hfz, hnd⟩ := hW
  have hA : DataW.TrodAll enc Tryd.prog W 0 (fun _ => true) true Tryd.f3.params.toList args.toList ds p := hA0
  rw [Tryd.params3] at hA hval
  obtain ⟨v0, vs0, d0, ds0, p0, q0, hargs, rfl, rfl, h0, r0⟩ := trodAll_cons hA
  obtain ⟨rfl, rfl, rfl⟩ := trodAll_nil r0
  obtain rfl : args = #[v0] := by cases args; simp_all
  obtain ⟨rfl, rfl⟩ := trodVars_none hV
  have k0 := h0
  have lt0 : ∀ x ∈ p0, x.block < W.heap.size := by obtain ⟨m, hm⟩ := k0; exact DataW.trod_lt m _ _ _ hm
  obtain ⟨x0_0, x0_1, x0_2, x0_3, x0_4, x0_5, x0_6, x0_7, x0_8, x0_9, a0_0, n0_0, c0_0, z0_0, a0_1, n0_1, c0_1, z0_1, rfl, w0_0, w0_1⟩ := openSegment (hval 0 25 v0 rfl rfl) h0
  clear hA0 hval0
  refine (walkShowSegment x0_0 x0_1 x0_2 x0_3 x0_4 x0_5 x0_6 x0_7 x0_8 x0_9 a0_0 n0_0 c0_0 a0_1 n0_1 c0_1 z0_0 z0_1 W w0_0 w0_1 (tabOf hL)).mono fun e W' ⟨he, bel⟩ => ?_
  subst he
  exact ⟨_, rfl, _, _, _, [], _, [], hW', trodAll_mk1 (shut_bool Tryd.underlying4 _), (trodAll_cons_mk (Below.trod laidOut (by kernel_rfl) (of_decide_eq_true (by kernel_rfl)) k0 bel lt0) trodAll_mk0), rfl, bel.frame _, fun h => by cases h⟩
theorem fnExactShowSegment_said : Rows.FnExactShowSegmentSaid :=
  OpenClaim.holds_of_wide 3 Tryd.f3 rfl rfl rfl rfl rfl rfl rfl ⟨rfl, rfl, rfl, rfl, rfl⟩ rfl rfl rfl rfl rfl (by kernel_rfl) Tryd.func3 (by kernel_rfl)
    (of_decide_eq_true (by kernel_rfl)) (by unfold Func.isWrapper; first | (rw [if_pos (by decide +kernel)]; kernel_rfl) | (rw [if_neg (by decide +kernel)]; exact ⟨rfl, rfl⟩))
    (fun os started H enc _ => fnExactShowSegment_lifted os started H enc)
theorem fnExactShowSegment_plain (f : FuncId) (fn : Func) (hf : Tryd.pinned.checked.prog.funcNamed "loop.example/g00003/laws.FnExactShowSegment" = some f) (hfn : Tryd.pinned.checked.prog.funcs[f]? = some fn) :
    true = Tryd.pinned.checked.prog.looks [] ∧ ∀ (j : Nat) t, fn.params[j]? = some t → Tryd.pinned.checked.prog.wantsStandIn t = false := by
  obtain rfl : f = 3 := Option.some.inj ((show Tryd.prog.funcNamed "loop.example/g00003/laws.FnExactShowSegment" = some 3 by kernel_rfl).symm.trans hf) |>.symm
  obtain rfl : fn = Tryd.f3 := (Option.some.inj (Tryd.func3.symm.trans hfn)).symm
  refine ⟨by kernel_rfl, fun j t ht => ?_⟩
  rw [Tryd.params3] at ht
  have hm : t ∈ [25] := by simpa using Array.mem_of_getElem? ht
  have hall : ([25].all fun u => !Tryd.prog.wantsStandIn u) = true := by kernel_rfl
  exact (show Tryd.prog.wantsStandIn t = false by simpa using List.all_eq_true.1 hall t hm)
theorem fnExactShowSegment_holds : Rows.FnExactShowSegmentCardSaid :=
  Claim7.holds_tied_plain_at .later [] _ _ _ _ fnExactShowSegment_said (fun _ h => by cases h) (by kernel_rfl) (fun _ h => by cases h) fnExactShowSegment_row_tie rfl ⟨rfl, rfl⟩ (by kernel_rfl) rfl fnExactShowSegment_plain (by kernel_rfl)
end Go.Proofs.YtcnfnimgpiaamaaDoor
