/-
At every input the law FnExactBoardAgain of the landed program answers true, and its arguments read afterwards as before.
No conditions.
-/
import Derived.Test.YtfffkgladjphoaaRows
import Derived.WalkKit
import Derived.ProofKit
import Derived.OpenShut
import Derived.Test.YtfffkgladjphoaaBai
import Derived.Test.YtfffkgladjphoaaBa2
import Derived.Lib.SmallJoins
import Derived.ChangeOld
import Derived.ShutString
import Derived.Below
namespace Go.Proofs.Ytfffkgladjphoaa
open Go.ChangeShapes Go.WideShapes Go.ChangeAt Go.RowKit
set_option linter.unusedVariables false
set_option maxRecDepth 100000
/-- What the walk is told of a slice of integers that came in: nil, or a row of 'cap' cells, the first 'len' of them its elements. -/
def IsRow (k : IntKind) (w : World) (a : Option Addr) (len cap : Nat) (zs : List Int) : Prop :=
  (a = none ∧ len = 0 ∧ cap = 0 ∧ zs = []) ∨
  ∃ x, a = some x ∧ len ≤ cap ∧ cap ≤ maxLen ∧ zs.length = cap ∧ (∀ i, i < zs.length → w.cell? (x.add i) = some (.int k (zs.getD i 0))) ∧ ∀ n ∈ zs, (Lit.int k n).wf = true
theorem cell_lt {w : World} {b o : Nat} {v : Value} (h : w.cell? ⟨b, o, none⟩ = some v) : b < w.heap.size := by
  by_cases hb : b < w.heap.size
  · exact hb
  · exfalso
    unfold World.cell? at h
    simp [Array.getElem?_eq_none (Nat.le_of_not_lt hb)] at h
theorem IsRow.arr {w : World} {a : Option Addr} {len cap : Nat} {zs : List Int} (h : IsRow .u8 w a len cap zs) : ∃ ys : List Int, ys.length = len ∧ Arr w a ys := by
  rcases h with ⟨rfl, rfl, rfl, rfl⟩ | ⟨x, rfl, hl, hm, hz, hcell, hwz⟩
  · exact ⟨[], rfl, by simp, fun j hj => by simp at hj⟩
  · refine ⟨zs.take len, by simp; omega, ?_, ?_⟩
    · intro z hz'
      have := hwz z (List.mem_of_mem_take hz')
      simpa [Lit.wf, IntKind.min, IntKind.max, IntKind.signed, IntKind.bits] using this
    · intro j hj
      have hj' : j < len := by simp at hj; omega
      obtain ⟨b, off, rfl, hc⟩ := ints_at hcell (by omega)
      have h1 := hc j (by omega)
      refine ⟨b, off, rfl, cell_lt h1, ?_⟩
      rw [h1, List.getD_eq_getElem?_getD, List.getD_eq_getElem?_getD, List.getElem?_take, if_pos hj']

theorem row_bound {w : World} {a : Option Addr} {n cap : Nat} {z : List Int} (h : IsRow .u8 w a n cap z) : n ≤ 9223372036854775807 := by
  rcases h with ⟨_, rfl, _, _⟩ | ⟨x, _, hl, hm, _⟩
  · omega
  · have : cap ≤ 9223372036854775807 := hm
    omega

/-- A struct of numbers by value: each of its cells reads at its field's type. -/
theorem agg_cells {H : Type} {enc : TypeId × Value → H} {P : Program} {w : World} {base b0 : Nat} {spare : Nat → Bool} {held : Bool} {r : Reach} {t : TypeId} {fs : Array Field} {v : Value} {d : DataW H} {p : List MemPlace} (hs : P.underlying t = some (.struct fs)) (hone : Go.Deep.oneCellFields P fs = true)
    (hv : Value.okWide P w r b0 t v) (h : DataW.Trod enc P w base spare held t v d p) :
    ∃ cs : Array Value, v = .agg cs ∧ cs.size = P.cellsOf t ∧ ∀ (i : Nat) (f : Field) (c : Value), fs[i]? = some f → cs[i]? = some c → ∃ n y, DataW.trod enc P w base spare held n f.type [c] = some y := by
  obtain ⟨cs, rfl, hsz⟩ := okWide_struct hs hv
  obtain ⟨fuel, hf⟩ := h
  obtain ⟨xs, n, _, _, hl, hlen, hr⟩ := DataW.trod_struct hs hf
  refine ⟨cs, rfl, hsz, fun i f c hi hc => ?_⟩
  obtain ⟨ho, hk⟩ := Go.Deep.hone_of hone i f hi
  have hlt : i < xs.length := by
    rw [hlen]; exact (Array.getElem?_eq_some_iff.1 hi).1
  have h1 := hr i f hi
  have e : (((Value.agg cs).cells.toList.drop f.offset).take (P.cellsOf f.type)) = [c] := by
    rw [ho, hk]
    have hc' : cs.toList[i]? = some c := by simpa using hc
    obtain ⟨hlt', e'⟩ := List.getElem?_eq_some_iff.1 hc'
    simp only [Value.cells]
    rw [List.drop_eq_getElem_cons hlt', e']
    rfl
  rw [e] at h1
  exact ⟨n, _, h1.trans (List.getElem?_eq_getElem hlt)⟩

/-- A slice whose elements read as the cells of a list's members. -/
theorem rowv_open {α : Type} (val : α → List Value) {t e K : Nat} (hv : ∀ o, (val o).length = K) (ht : Try.prog.underlying t = some (.slice e)) (hc : Try.prog.cellsOf e = K) (hK : 0 < K) (hf : ∀ (H : Type) (enc : TypeId × Value → H) (w : World) (base : Nat) (spare : Nat → Bool) (held : Bool) (fuel : Nat) (cs : List Value) (y : DataW H × List MemPlace), DataW.trod enc Try.prog w base spare held fuel e cs = some y → ∃ o, cs = val o) {H : Type} {enc : TypeId × Value → H} {w : World} {base : Nat} {spare : Nat → Bool} {held : Bool} {fuel : Nat} {cs : List Value} {x : DataW H × List MemPlace} (h : DataW.trod enc Try.prog w base spare held fuel t cs = some x) :
    ∃ (a : Option Addr) (n cap : Nat) (os : List α), cs = [.slice a n cap] ∧ os.length = n ∧ ArrP w a (os.flatMap val) ∧ n ≤ cap ∧ n ≤ maxLen := by
  rcases DataW.trod_slice ht h with ⟨rfl, _⟩ | ⟨a, len, cap, elems, rest, n, _, rfl, _, _, hl, hm, hlen, hel, _, _⟩
  · exact ⟨none, 0, 0, [], rfl, rfl, fun j hj => by simp at hj, Nat.le_refl _, Nat.zero_le _⟩
  · have hh : ∀ i, i < len → ∃ o : α, ∀ g, g < K → w.cell? (a.add (i * K + g)) = (val o)[g]? := by
      intro i hi
      have he := hel i hi
      rw [List.getElem?_eq_getElem (by omega), hc, Option.bind_eq_some_iff] at he
      obtain ⟨cs', h1, h2⟩ := he
      obtain ⟨_, _, h3⟩ := World.cells?_some h1
      obtain ⟨o, rfl⟩ := hf H enc w base spare held n cs' _ h2
      refine ⟨o, fun g hg => ?_⟩
      have h4 := h3 g hg
      rw [Addr.add_add] at h4
      exact h4
    have hex : ∀ m, m ≤ len → ∃ os : List α, os.length = m ∧ ∀ i (hi : i < os.length), ∀ g, g < K → w.cell? (a.add (i * K + g)) = (val os[i])[g]? := by
      intro m
      induction m with
      | zero => exact fun _ => ⟨[], rfl, fun i hi => absurd hi (by simp)⟩
      | succ m ih =>
        intro hm'
        obtain ⟨os, hol, ho⟩ := ih (by omega)
        obtain ⟨o, hoo⟩ := hh m (by omega)
        refine ⟨os ++ [o], by simp [hol], fun i hi g hg => ?_⟩
        by_cases e : i < os.length
        · rw [List.getElem_append_left e]; exact ho i e g hg
        · have e' : i = m := by simp at hi; omega
          subst e'
          rw [List.getElem_append_right (by omega)]
          simpa [hol] using hoo g hg
    obtain ⟨os, hol, ho⟩ := hex len (Nat.le_refl _)
    refine ⟨some a, len, cap, os, rfl, hol, ?_, hl, Nat.le_trans hl hm⟩
    intro j hj
    have hfl : (os.flatMap val).length = os.length * K := vlen val K hv os
    have hjl : j < os.length * K := by rw [← hfl]; exact hj
    have hi : j / K < os.length := Nat.div_lt_of_lt_mul (by rw [Nat.mul_comm]; exact hjl)
    have hg : j % K < K := Nat.mod_lt _ hK
    have hjj : j / K * K + j % K = j := by rw [Nat.mul_comm]; exact Nat.div_add_mod j K
    have h1 := ho (j / K) hi (j % K) hg
    have h2 := vat val K hv os (j / K) (j % K) hi hg
    rw [hjj] at h1 h2
    have hcell : w.cell? (a.add j) = (os.flatMap val)[j]? := h1.trans h2.symm
    obtain ⟨b, off, spot⟩ := a
    have hsome : ∃ u, w.cell? ((⟨b, off, spot⟩ : Addr).add j) = some u := ⟨_, hcell.trans (List.getElem?_eq_getElem hj)⟩
    obtain ⟨u, hu⟩ := hsome
    have hspot : spot = none := by
      have hs := ho 0 (Nat.lt_of_le_of_lt (Nat.zero_le _) hi) 0 hK
      rw [Nat.zero_mul, List.getElem?_eq_getElem (by rw [hv]; exact hK)] at hs
      simpa [Addr.add] using World.cell?_spot hs
    subst hspot
    rw [Go.WideShapes.add_plain] at hcell hu
    exact ⟨b, off, rfl, cell_lt hu, hcell⟩
theorem cellsPiece {α : Type} {cs : List α} (h : cs.length = 6) : ∃ k0 k1 k2 k3 k4 k5, cs = [k0, k1, k2, k3, k4, k5] := by
  match cs, h with
  | [k0, k1, k2, k3, k4, k5], _ => exact ⟨k0, k1, k2, k3, k4, k5, rfl⟩
theorem openPiece (H : Type) (enc : TypeId × Value → H) (w : World) (base : Nat) (spare : Nat → Bool) (held : Bool) (fuel : Nat) (cs : List Value) (y : DataW H × List MemPlace) (h : DataW.trod enc Try.prog w base spare held fuel 61 cs = some y) : ∃ o : PieceM, cs = valPiece o := by
  obtain ⟨xs, n, _, _, hl, hx, hfs⟩ := DataW.trod_struct Try.underlying61 h
  have hcK : Try.prog.cellsOf 61 = 6 := by kernel_rfl
  obtain ⟨k0, k1, k2, k3, k4, k5, rfl⟩ := cellsPiece (hl.trans hcK)
  have hx' : xs.length = 6 := hx
  have f0 := hfs 0 _ rfl
  rw [List.getElem?_eq_getElem (by omega : 0 < xs.length)] at f0
  obtain ⟨z0, e0, _, _⟩ := DataW.trod_int Try.underlying2 f0
  have f1 := hfs 1 _ rfl
  rw [List.getElem?_eq_getElem (by omega : 1 < xs.length)] at f1
  obtain ⟨z1, e1, _, _⟩ := DataW.trod_int Try.underlying2 f1
  have f2 := hfs 2 _ rfl
  rw [List.getElem?_eq_getElem (by omega : 2 < xs.length)] at f2
  obtain ⟨z2, e2, _, _⟩ := DataW.trod_int Try.underlying2 f2
  have f3 := hfs 3 _ rfl
  rw [List.getElem?_eq_getElem (by omega : 3 < xs.length)] at f3
  obtain ⟨z3, e3, _, _⟩ := DataW.trod_int Try.underlying2 f3
  have f4 := hfs 4 _ rfl
  rw [List.getElem?_eq_getElem (by omega : 4 < xs.length)] at f4
  obtain ⟨z4, e4, _⟩ := DataW.trod_bool Try.underlying4 f4
  have f5 := hfs 5 _ rfl
  rw [List.getElem?_eq_getElem (by omega : 5 < xs.length)] at f5
  obtain ⟨z5, e5, _⟩ := DataW.trod_bool Try.underlying4 f5
  have ci : Try.prog.cellsOf 2 = 1 := by kernel_rfl
  have cb : Try.prog.cellsOf 4 = 1 := by kernel_rfl
  have g0 : k0 = .int .i64 z0 := by simpa [ci] using e0
  have g1 : k1 = .int .i64 z1 := by simpa [ci] using e1
  have g2 : k2 = .int .i64 z2 := by simpa [ci] using e2
  have g3 : k3 = .int .i64 z3 := by simpa [ci] using e3
  have g4 : k4 = .bool z4 := by simpa [cb] using e4
  have g5 : k5 = .bool z5 := by simpa [cb] using e5
  exact ⟨⟨z0, z1, z2, z3, z4, z5⟩, by rw [g0, g1, g2, g3, g4, g5]; rfl⟩
theorem openRow_Piece {H : Type} {enc : TypeId × Value → H} {w : World} {base : Nat} {spare : Nat → Bool} {held : Bool} {fuel : Nat} {cs : List Value} {x : DataW H × List MemPlace} (h : DataW.trod enc Try.prog w base spare held fuel 22 cs = some x) :
    ∃ (a : Option Addr) (n cap : Nat) (os : List PieceM), cs = [.slice a n cap] ∧ os.length = n ∧ ArrP w a (os.flatMap valPiece) ∧ n ≤ cap ∧ n ≤ maxLen :=
  rowv_open valPiece valPiece_len Try.underlying22 (by kernel_rfl) (by decide) openPiece h
theorem cellsBoard {α : Type} {cs : Array α} (h : cs.size = 3) : ∃ k0 k1 k2, cs = #[k0, k1, k2] := by
  obtain ⟨l⟩ := cs
  match l, h with
  | [k0, k1, k2], _ => exact ⟨k0, k1, k2, rfl⟩
theorem openBoard {H : Type} {enc : TypeId × Value → H} {w : World} {base b0 : Nat} {held : Bool} {r : Reach} {v : Value} {d : DataW H} {p : List MemPlace} (hv : Value.okWide Try.prog w r b0 24 v) (h : DataW.Trod enc Try.prog w base (fun _ => true) held 24 v d p) :
    ∃ (x0 : Int) (x1 : Int) (a0 : Option Addr) (n0 c0 : Nat) (z0 : List PieceM), v = .agg #[.int .i64 x0, .int .i64 x1, .slice a0 n0 c0] ∧ (z0.length = n0 ∧ ArrP w a0 (z0.flatMap valPiece) ∧ n0 ≤ c0 ∧ n0 ≤ maxLen) := by
  obtain ⟨cs, rfl, hsz, hr⟩ := agg_cells Try.underlying24 (by kernel_rfl) hv h
  have hC : Try.prog.cellsOf 24 = 3 := by kernel_rfl
  obtain ⟨k0, k1, k2, rfl⟩ := cellsBoard (hsz.trans hC)
  obtain ⟨m0, y0, r0⟩ := hr 0 _ k0 rfl rfl
  obtain ⟨x0, e0, _, _⟩ := DataW.trod_int Try.underlying2 r0
  simp at e0
  subst e0
  obtain ⟨m1, y1, r1⟩ := hr 1 _ k1 rfl rfl
  obtain ⟨x1, e1, _, _⟩ := DataW.trod_int Try.underlying2 r1
  simp at e1
  subst e1
  obtain ⟨m2, y2, r2⟩ := hr 2 _ k2 rfl rfl
  obtain ⟨a, n, cap, os, hcs, hz, hA, hle, hmx⟩ := openRow_Piece r2
  simp at hcs
  subst hcs
  exact ⟨x0, x1, a, n, cap, os, rfl, hz, hA, hle, hmx⟩

theorem walkBoardAgain (x0 x1 : Int) (a : Option Addr) (n c : Nat) (z : List PieceM) (t : Int) (w : World) (h : z.length = n ∧ ArrP w a (z.flatMap valPiece) ∧ n ≤ c ∧ n ≤ maxLen) (_ : (Lit.int .i64 t).wf = true) : Calls Try.prog 4 #[.agg #[.int .i64 x0, .int .i64 x1, .slice a n c], .int .i64 t] w fun e w' => e = .returned (.bool true) ∧ Below w.heap.size w w' := by
  obtain ⟨hn, ha, _, hm⟩ := h
  have hm2 : n ≤ 9223372036854775807 := by unfold maxLen at hm; exact hm
  by_cases hok : bOK x0 x1 z
  · by_cases ht : 0 ≤ t ∧ t ≤ 1000000000
    · rcases again_split t z with ⟨_, hno⟩ | ⟨A0, q, B0, h1, h2, h3, _, _⟩
      · exact walkBoardAgain1 (fun _ => True) (fun _ _ _ _ => trivial) x0 x1 z t _ _ _ _ _ _ _ _ _ _ (specAgain_none t hok ht hno) (implAgain_none t hok ht hno) (by simp) a n c w hn ha hm2 trivial
      · exact walkBoardAgain1 (fun _ => True) (fun _ _ _ _ => trivial) x0 x1 z t _ _ _ _ _ _ _ _ _ _ (specAgain_yes t hok ht A0 B0 q h1 h2 h3) (implAgain_yes t hok ht A0 B0 q h1 h2 h3) (by have := hok.2.2.1; rw [h1] at this; simp at this ⊢; omega) a n c w hn ha hm2 trivial
    · exact walkBoardAgain1 (fun _ => True) (fun _ _ _ _ => trivial) x0 x1 z t _ _ _ _ _ _ _ _ _ _ (specAgain_form t hok ht) (implAgain_form t hok ht) (by simp) a n c w hn ha hm2 trivial
  · exact walkBoardAgain1 (fun _ => True) (fun _ _ _ _ => trivial) x0 x1 z t _ _ _ _ _ _ _ _ _ _ (specAgain_no t hok) (implAgain_no t hok) (by simp) a n c w hn ha hm2 trivial

theorem own : ownKnob Try.prog.godebug = none := by kernel_rfl
theorem laidOut : laidOutB Try.prog = true := by kernel_rfl
set_option maxRecDepth 100000 in
theorem fnExactBoardAgain_lifted (os : Os) (started : os.Started) (H : Type) (enc : TypeId × Value → H) :
    ReturnsInHanded {} Try.checked os 4 .any (Rows.fnExactBoardAgainSpec.pre6 enc Try.prog Try.f4 Rows.fnExactBoardAgainRow.domain false) (Rows.fnExactBoardAgainSpec.post enc Try.prog Try.f4 false true false false) := by
  refine returnsInHanded_of_change (C := Try.checked) own started (by kernel_rfl) Try.func4
    (ChangeSpec.witness6 (enc := enc) (C := Try.checked) false ⟨#[], #[.agg #[.int .i64 0, .int .i64 0, .slice none 0 0], .int .i64 0], []⟩ 8 (by kernel_rfl) (by kernel_rfl) (by kernel_rfl) (by kernel_rfl)) ?_
  intro W base args ds gs before hval0 hW hcnd _
  have hval : ∀ (j : Nat) t v, Try.f4.params[j]? = some t → args[j]? = some v → Value.okWide Try.prog W .any base t v := hval0
  have hW' := hW
  obtain ⟨p, q, hA0, hV, rfl, hfz, hnd⟩ := hW
  have hA : DataW.TrodAll enc Try.prog W 0 (fun _ => true) true Try.f4.params.toList args.toList ds p := hA0
  rw [Try.params4] at hA hval
  obtain ⟨v0, vs0, d0, ds0, p0, q0, hargs, rfl, rfl, h0, r0⟩ := trodAll_cons hA
  obtain ⟨v1, vs1, d1, ds1, p1, q1, rfl, rfl, rfl, h1, r1⟩ := trodAll_cons r0
  obtain ⟨rfl, rfl, rfl⟩ := trodAll_nil r1
  obtain rfl : args = #[v0, v1] := by cases args; simp_all
  obtain ⟨rfl, rfl⟩ := trodVars_none hV
  have k0 := h0
  have lt0 : ∀ x ∈ p0, x.block < W.heap.size := by obtain ⟨m, hm⟩ := k0; exact DataW.trod_lt m _ _ _ hm
  obtain ⟨x0_0, x0_1, a0_0, n0_0, c0_0, z0_0, rfl, w0_0⟩ := openBoard (hval 0 24 v0 rfl rfl) h0
  obtain ⟨a1, rfl, rfl, rfl, w1⟩ := open_int Try.underlying2 (hval 1 2 v1 rfl rfl) h1
  clear hA0 hval0
  refine (walkBoardAgain x0_0 x0_1 a0_0 n0_0 c0_0 z0_0 a1 W w0_0 w1).mono fun e W' ⟨he, bel⟩ => ?_
  subst he
  exact ⟨_, rfl, _, _, _, [], _, [], hW', trodAll_mk1 (shut_bool Try.underlying4 _), (trodAll_cons_mk (Below.trod laidOut (by kernel_rfl) (of_decide_eq_true (by kernel_rfl)) k0 bel lt0) (trodAll_cons_mk (shut_int Try.underlying2 w1) trodAll_mk0)), rfl, bel.frame _, fun h => by cases h⟩
theorem fnExactBoardAgain_holds : Rows.FnExactBoardAgainSaid :=
  OpenClaim.holds_of_wide 4 Try.f4 rfl rfl rfl rfl rfl rfl rfl ⟨rfl, rfl, rfl, rfl, rfl⟩ rfl rfl rfl rfl rfl (by kernel_rfl) Try.func4 (by kernel_rfl)
    (of_decide_eq_true (by kernel_rfl)) (by unfold Func.isWrapper; first | (rw [if_pos (by decide +kernel)]; kernel_rfl) | (rw [if_neg (by decide +kernel)]; exact ⟨rfl, rfl⟩))
    (fun os started H enc _ => fnExactBoardAgain_lifted os started H enc)
end Go.Proofs.Ytfffkgladjphoaa
