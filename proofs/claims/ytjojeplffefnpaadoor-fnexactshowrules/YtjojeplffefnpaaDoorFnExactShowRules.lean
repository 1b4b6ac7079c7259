/-
At every input the law FnExactShowRules of the landed program answers true, and its arguments read afterwards as before.
Condition: the package-level tables that the card lists are as the program lays them (the card ties them to the text, within the pruned copy).
-/
import Derived.Test.YtjojeplffefnpaaDoorRows
import Derived.WalkKit
import Derived.ProofKit
import Derived.OpenShut
import Derived.Test.YtjojeplffefnpaaDoorShl
import Derived.Test.YtjojeplffefnpaaDoorSlo
import Derived.Test.YtjojeplffefnpaaDoorLru
import Derived.ChangeOld
import Derived.ShutString
import Derived.Below
import Derived.Test.YtjojeplffefnpaaDoorCards
import Derived.Test.YtjojeplffefnpaaDoorTie
import Derived.Lib.LaidTab
import Derived.Stop.LaidErr
import Derived.LaidMore
import Derived.SevenTiedAt
import Derived.LaidLaws
import Derived.LaidHandle
namespace Go.Proofs.YtjojeplffefnpaaDoor
open Go.ChangeShapes Go.WideShapes Go.ChangeAt Go.RowKit
set_option linter.unusedVariables false
set_option maxRecDepth 100000
set_option maxHeartbeats 2000000 in
theorem showLines_many (a : Option Addr) (n cap : Nat) (w : World) (hm : 64 < n) (hm2 : n ≤ 1048576) :
    Calls Tryd.prog 22 #[.slice a n cap, .int .i64 64, .func (.func 23) #[] #[], .func (.func 24) #[] #[]] w fun e w' => e = .returned (.tuple #[.string ⟨#[]⟩, .int .i64 8]) ∧ Below w.heap.size w w' := by
  have hn' : (64 : Int) < (n : Int) := by omega
  go_enter Tryd.func22, Tryd.ntmps22
  go_wp2_with fail
  go_ret2
  exact ⟨rfl, Below.refl _ _⟩
set_option maxHeartbeats 2000000 in
theorem implShow_walk (a : Option Addr) (n cap : Nat) (zs : List Int) (w : World) (hn : zs.length = n * 12) (ha : ArrI w a zs) (hm : n ≤ 1048576) (ht : Lib.TabBelow Tryd.prog w.heap.size w "internal/strconv.uint64pow10" .u64 Lib.pow10Tab) :
    Calls Tryd.prog 8 #[.slice a n cap] w fun e w' => e = .returned (.tuple #[.string (ruS zs n), .int .i64 (ruC zs n)]) ∧ Below w.heap.size w w' := by
  have CS : Hid (Calls Tryd.prog 22 #[.slice a n cap, .int .i64 64, .func (.func 23) #[] #[], .func (.func 24) #[] #[]] w fun e w' => e = .returned (.tuple #[.string (ruS zs n), .int .i64 (ruC zs n)]) ∧ Below w.heap.size w w') := hide (by
    by_cases h : n ≤ 64
    · exact showLinesR_walk a n cap zs w hn ha h ht
    · have h1 : ruC zs n = 8 := by unfold ruC; rw [if_pos (by omega)]
      have h2 : ruS zs n = ⟨#[]⟩ := by unfold ruS; rw [h1]; rfl
      rw [h1, h2]
      exact showLines_many a n cap w (by omega) hm)
  generalize ruS zs n = T at *
  generalize ruC zs n = C at *
  clear ha hn ht
  go_enter Tryd.func8, Tryd.ntmps8
  go_wp2_with fail
  refine CS.out.mono ?_
  rintro e w1 ⟨rfl, hb1⟩
  go_wp2_with fail
  go_ret2
  exact ⟨rfl, hb1⟩
def TabPre (w : World) : Prop := Lib.TabBelow Tryd.prog w.heap.size w "internal/strconv.uint64pow10" .u64 Lib.pow10Tab
theorem walkShowRules (a : Option Addr) (n cap : Nat) (zs : List Int) (w : World) (hn : zs.length = n * 12) (ha : ArrI w a zs) (hc : n ≤ cap) (hm : n ≤ maxLen) (ht : Lib.TabIs Tryd.prog w "internal/strconv.uint64pow10" .u64 Lib.pow10Tab) :
    Calls Tryd.prog 3 #[.slice a n cap] w fun e w' => e = .returned (.bool true) ∧ Below w.heap.size w w' := by
  refine walkShowRules0 TabPre (fun W W' h hb => tab_later h hb hb.size) zs (ruS zs (zs.length / 12)) (ruC zs (zs.length / 12)) ?_ ?_ a n cap w hn ha hm (Lib.tabBelow_of_tabIs ht)
  · intro a n cap w hn ha _ hm _
    rw [show zs.length / 12 = n by omega]
    exact specShowR_walk a n cap zs w hn ha hm
  · intro a n cap w hn ha _ hm ht
    rw [show zs.length / 12 = n by omega]
    exact implShow_walk a n cap zs w hn ha hm ht

/-- What the walk is told of a slice of integers that came in: nil, or a row of 'cap' cells, the first 'len' of them its elements. -/
def IsRow (k : IntKind) (w : World) (a : Option Addr) (len cap : Nat) (zs : List Int) : Prop :=
  (a = none ∧ len = 0 ∧ cap = 0 ∧ zs = []) ∨
  ∃ x, a = some x ∧ len ≤ cap ∧ cap ≤ maxLen ∧ zs.length = cap ∧ (∀ i, i < zs.length → w.cell? (x.add i) = some (.int k (zs.getD i 0))) ∧ ∀ n ∈ zs, (Lit.int k n).wf = true
theorem cell_lt {w : World} {b o : Nat} {v : Value} (h : w.cell? ⟨b, o, none⟩ = some v) : b < w.heap.size := by
  by_cases hb : b < w.heap.size
  · exact hb
  · exfalso
    unfold World.cell? at h
    simp [Array.getElem?_eq_none (Nat.le_of_not_lt hb)] at h
theorem IsRow.arr {w : World} {a : Option Addr} {len cap : Nat} {zs : List Int} (h : IsRow .u8 w a len cap zs) : ∃ ys : List Int, ys.length = len ∧ Arr w a ys := by
  rcases h with ⟨rfl, rfl, rfl, rfl⟩ | ⟨x, rfl, hl, hm, hz, hcell, hwz⟩
  · exact ⟨[], rfl, by simp, fun j hj => by simp at hj⟩
  · refine ⟨zs.take len, by simp; omega, ?_, ?_⟩
    · intro z hz'
      have := hwz z (List.mem_of_mem_take hz')
      simpa [Lit.wf, IntKind.min, IntKind.max, IntKind.signed, IntKind.bits] using this
    · intro j hj
      have hj' : j < len := by simp at hj; omega
      obtain ⟨b, off, rfl, hc⟩ := ints_at hcell (by omega)
      have h1 := hc j (by omega)
      refine ⟨b, off, rfl, cell_lt h1, ?_⟩
      rw [h1, List.getD_eq_getElem?_getD, List.getD_eq_getElem?_getD, List.getElem?_take, if_pos hj']

theorem flat_field {cs : List Value} {o K g : Nat} {v : Value} (h : ((cs.drop o).take K)[g]? = some v) : cs[o + g]? = some v := by
  rw [List.getElem?_take] at h
  split at h
  · rw [List.getElem?_drop] at h; exact h
  · cases h
/-- A type whose values are so many cells of int64. -/
def FlatI (t K : Nat) : Prop := ∀ (H : Type) (enc : TypeId × Value → H) (w : World) (base : Nat) (spare : Nat → Bool) (held : Bool) (fuel : Nat) (cs : List Value) (y : DataW H × List MemPlace), DataW.trod enc Tryd.prog w base spare held fuel t cs = some y → cs.length = K ∧ ∀ f, f < K → ∃ z, cs[f]? = some (.int .i64 z)
theorem flat_int64 : FlatI 2 1 := by
  intro H enc w base spare held fuel cs y h
  obtain ⟨n, rfl, _, _⟩ := DataW.trod_int Tryd.underlying2 h
  exact ⟨rfl, fun f hf => ⟨n, by rw [show f = 0 by omega]; rfl⟩⟩
theorem flat_row {t e K : Nat} (ht : Tryd.prog.underlying t = some (.slice e)) (hc : Tryd.prog.cellsOf e = K) (hK : 0 < K) (hf : FlatI e K) {H : Type} {enc : TypeId × Value → H} {w : World} {base : Nat} {spare : Nat → Bool} {held : Bool} {fuel : Nat} {cs : List Value} {x : DataW H × List MemPlace} (h : DataW.trod enc Tryd.prog w base spare held fuel t cs = some x) :
    ∃ (a : Option Addr) (n cap : Nat) (zs : List Int), cs = [.slice a n cap] ∧ zs.length = n * K ∧ ArrI w a zs ∧ n ≤ cap ∧ n ≤ maxLen := by
  rcases DataW.trod_slice ht h with ⟨rfl, _⟩ | ⟨a, len, cap, elems, rest, n, _, rfl, _, _, hl, hm, hlen, hel, _, _⟩
  · exact ⟨none, 0, 0, [], rfl, by simp, fun j hj => by simp at hj, Nat.le_refl _, Nat.zero_le _⟩
  · have hh : ∀ j, j < len * K → ∃ z, w.cell? (a.add j) = some (.int .i64 z) := by
      intro j hj
      have hi : j / K < len := Nat.div_lt_of_lt_mul (by rw [Nat.mul_comm]; exact hj)
      have hg : j % K < K := Nat.mod_lt _ hK
      have he := hel (j / K) hi
      rw [List.getElem?_eq_getElem (by omega), hc, Option.bind_eq_some_iff] at he
      obtain ⟨cs', h1, h2⟩ := he
      obtain ⟨_, _, h3⟩ := World.cells?_some h1
      obtain ⟨z, hz⟩ := (hf H enc w base spare held n cs' _ h2).2 (j % K) hg
      refine ⟨z, ?_⟩
      have h4 := h3 (j % K) hg
      rw [hz, Addr.add_add, show j / K * K + j % K = j by rw [Nat.mul_comm]; exact Nat.div_add_mod j K] at h4
      exact h4
    have hz : ∃ zs : List Int, zs.length = len * K ∧ ∀ j, j < zs.length → w.cell? (a.add j) = some (.int .i64 (zs.getD j 0)) := by
      have hch : ∀ j, ∃ z : Int, j < len * K → w.cell? (a.add j) = some (.int .i64 z) := fun j => by
        by_cases hj : j < len * K
        · obtain ⟨z, hz⟩ := hh j hj; exact ⟨z, fun _ => hz⟩
        · exact ⟨0, fun h => absurd h hj⟩
      refine ⟨(List.range (len * K)).map (fun j => (hch j).choose), by simp, fun j hj => ?_⟩
      have hj' : j < len * K := by simpa using hj
      rw [(hch j).choose_spec hj']
      congr 2
      simp [hj']
    obtain ⟨zs, hzl, hzc⟩ := hz
    refine ⟨some a, len, cap, zs, rfl, hzl, ?_, hl, Nat.le_trans hl hm⟩
    intro j hj
    obtain ⟨b, off, e, hcell⟩ := ints_at hzc (by omega)
    have h1 := hcell j hj
    exact ⟨b, off, by rw [e], cell_lt h1, h1⟩
theorem flat_Prefix : FlatI 50 2 := by
  intro H enc w base spare held fuel cs y h
  obtain ⟨xs, n, _, _, hl, hx, hfs⟩ := DataW.trod_struct Tryd.underlying50 h
  have hcK : Tryd.prog.cellsOf 50 = 2 := by kernel_rfl
  refine ⟨by rw [hl, hcK], fun f hf => ?_⟩
  have hx' : xs.length = 2 := hx
  have f0 := hfs 0 _ rfl
  rw [List.getElem?_eq_getElem (by omega : 0 < xs.length)] at f0
  have g0 := (flat_int64 H enc w base spare held n _ _ f0).2
  have f1 := hfs 1 _ rfl
  rw [List.getElem?_eq_getElem (by omega : 1 < xs.length)] at f1
  have g1 := (flat_int64 H enc w base spare held n _ _ f1).2
  match f, hf with
  | 0, _ =>
    obtain ⟨z, hz⟩ := g0 0 (by omega)
    exact ⟨z, flat_field hz⟩
  | 1, _ =>
    obtain ⟨z, hz⟩ := g1 0 (by omega)
    exact ⟨z, flat_field hz⟩
theorem flat_Rule : FlatI 52 12 := by
  intro H enc w base spare held fuel cs y h
  obtain ⟨xs, n, _, _, hl, hx, hfs⟩ := DataW.trod_struct Tryd.underlying52 h
  have hcK : Tryd.prog.cellsOf 52 = 12 := by kernel_rfl
  refine ⟨by rw [hl, hcK], fun f hf => ?_⟩
  have hx' : xs.length = 10 := hx
  have f0 := hfs 0 _ rfl
  rw [List.getElem?_eq_getElem (by omega : 0 < xs.length)] at f0
  have g0 := (flat_int64 H enc w base spare held n _ _ f0).2
  have f1 := hfs 1 _ rfl
  rw [List.getElem?_eq_getElem (by omega : 1 < xs.length)] at f1
  have g1 := (flat_int64 H enc w base spare held n _ _ f1).2
  have f2 := hfs 2 _ rfl
  rw [List.getElem?_eq_getElem (by omega : 2 < xs.length)] at f2
  have g2 := (flat_int64 H enc w base spare held n _ _ f2).2
  have f3 := hfs 3 _ rfl
  rw [List.getElem?_eq_getElem (by omega : 3 < xs.length)] at f3
  have g3 := (flat_Prefix H enc w base spare held n _ _ f3).2
  have f4 := hfs 4 _ rfl
  rw [List.getElem?_eq_getElem (by omega : 4 < xs.length)] at f4
  have g4 := (flat_int64 H enc w base spare held n _ _ f4).2
  have f5 := hfs 5 _ rfl
  rw [List.getElem?_eq_getElem (by omega : 5 < xs.length)] at f5
  have g5 := (flat_int64 H enc w base spare held n _ _ f5).2
  have f6 := hfs 6 _ rfl
  rw [List.getElem?_eq_getElem (by omega : 6 < xs.length)] at f6
  have g6 := (flat_Prefix H enc w base spare held n _ _ f6).2
  have f7 := hfs 7 _ rfl
  rw [List.getElem?_eq_getElem (by omega : 7 < xs.length)] at f7
  have g7 := (flat_int64 H enc w base spare held n _ _ f7).2
  have f8 := hfs 8 _ rfl
  rw [List.getElem?_eq_getElem (by omega : 8 < xs.length)] at f8
  have g8 := (flat_int64 H enc w base spare held n _ _ f8).2
  have f9 := hfs 9 _ rfl
  rw [List.getElem?_eq_getElem (by omega : 9 < xs.length)] at f9
  have g9 := (flat_int64 H enc w base spare held n _ _ f9).2
  match f, hf with
  | 0, _ =>
    obtain ⟨z, hz⟩ := g0 0 (by omega)
    exact ⟨z, flat_field hz⟩
  | 1, _ =>
    obtain ⟨z, hz⟩ := g1 0 (by omega)
    exact ⟨z, flat_field hz⟩
  | 2, _ =>
    obtain ⟨z, hz⟩ := g2 0 (by omega)
    exact ⟨z, flat_field hz⟩
  | 3, _ =>
    obtain ⟨z, hz⟩ := g3 0 (by omega)
    exact ⟨z, flat_field hz⟩
  | 4, _ =>
    obtain ⟨z, hz⟩ := g3 1 (by omega)
    exact ⟨z, flat_field hz⟩
  | 5, _ =>
    obtain ⟨z, hz⟩ := g4 0 (by omega)
    exact ⟨z, flat_field hz⟩
  | 6, _ =>
    obtain ⟨z, hz⟩ := g5 0 (by omega)
    exact ⟨z, flat_field hz⟩
  | 7, _ =>
    obtain ⟨z, hz⟩ := g6 0 (by omega)
    exact ⟨z, flat_field hz⟩
  | 8, _ =>
    obtain ⟨z, hz⟩ := g6 1 (by omega)
    exact ⟨z, flat_field hz⟩
  | 9, _ =>
    obtain ⟨z, hz⟩ := g7 0 (by omega)
    exact ⟨z, flat_field hz⟩
  | 10, _ =>
    obtain ⟨z, hz⟩ := g8 0 (by omega)
    exact ⟨z, flat_field hz⟩
  | 11, _ =>
    obtain ⟨z, hz⟩ := g9 0 (by omega)
    exact ⟨z, flat_field hz⟩
theorem openRow_Rule {H : Type} {enc : TypeId × Value → H} {w : World} {base : Nat} {spare : Nat → Bool} {held : Bool} {fuel : Nat} {cs : List Value} {x : DataW H × List MemPlace} (h : DataW.trod enc Tryd.prog w base spare held fuel 22 cs = some x) :
    ∃ (a : Option Addr) (n cap : Nat) (zs : List Int), cs = [.slice a n cap] ∧ zs.length = n * 12 ∧ ArrI w a zs ∧ n ≤ cap ∧ n ≤ maxLen :=
  flat_row Tryd.underlying22 (by kernel_rfl) (by decide) flat_Rule h

theorem own : ownKnob Tryd.prog.godebug = none := by kernel_rfl
theorem laidOut : laidOutB Tryd.prog = true := by kernel_rfl
theorem gTab : Tryd.prog.globalNamed "internal/strconv.uint64pow10" = some 2 := by kernel_rfl
theorem gTabType : (Tryd.prog.globals[2]?).map (·.type) = some 170 := by kernel_rfl
theorem cellsT : Tryd.prog.cellsOf 170 = 20 := by kernel_rfl
theorem cellsE : Tryd.prog.cellsOf 144 = 1 := by kernel_rfl
/-- What the row's list gives: the table's cells hold its numbers. -/
theorem tabOf {W : World} (h : laidMetH Tryd.prog Rows.fnExactShowRulesRow.laid W) : Lib.TabIs Tryd.prog W "internal/strconv.uint64pow10" .u64 Lib.pow10Tab := by
  have h' : laidMet Tryd.prog Rows.fnExactShowRulesRow.laid W := h
  exact Lib.tabIs_of_head gTab gTabType Tryd.underlying170 Tryd.underlying144 cellsE cellsT h'.tail.tail
theorem door_met (os : Os) (args : Array Value) : laidMetH Tryd.prog Rows.fnExactShowRulesRow.laid ((World.doorLaid Tryd.prog 400 os).forCall (fun _ _ => 0) ⟨#[], args, []⟩).memory :=
  laidMetH_of_parts3 (fuel := 8) (laidMet_of_run' 8 (by kernel_rfl) (by kernel_rfl)) (by kernel_rfl) (by kernel_rfl)
set_option maxRecDepth 100000 in
theorem fnExactShowRules_lifted (os : Os) (started : os.Started) (H : Type) (enc : TypeId × Value → H) :
    ReturnsInHanded {} Tryd.checked os 3 .any (fun w args => (Rows.fnExactShowRulesSpec.pre enc Tryd.prog Tryd.f3 [] false w args ∧ laidMetH Tryd.prog Rows.fnExactShowRulesRow.laid w) ∧ sizedMet enc Tryd.prog Tryd.f3 (OpenSpec.ofChange Rows.fnExactShowRulesSpec) false w args) (Rows.fnExactShowRulesSpec.post enc Tryd.prog Tryd.f3 false true false false) := by
  refine returnsInHanded_of_change_and (C := Tryd.checked) (X := fun w _ => laidMetH Tryd.prog Rows.fnExactShowRulesRow.laid w) (fun _ _ _ hh h => h.of_heap hh) own started (by kernel_rfl) Tryd.func3
    (ChangeSpec.witness_shaped (enc := enc) (C := Tryd.checked) (os := os) (X := fun w _ => laidMetH Tryd.prog Rows.fnExactShowRulesRow.laid w) false (World.doorLaid Tryd.prog 400 os) #[.slice none 0 0] 8 rfl (World.shaped_of_RefB (by kernel_rfl) (by kernel_rfl)) (by kernel_rfl) (by kernel_rfl) (by kernel_rfl) (door_met os _)) ?_
  intro W base args ds gs before hval0 hW _ _ hL _
  have hval : ∀ (j : Nat) t v, Tryd.f3.params[j]? = some t → args[j]? = some v → Value.okWide Tryd.prog W .any base t v := hval0
  have hW' := hW
  obtain ⟨p, q, hA0, hV, rfl, hfz, hnd⟩ := hW
  have hA : DataW.TrodAll enc Tryd.prog W 0 (fun _ => true) true Tryd.f3.params.toList args.toList ds p := hA0
  rw [Tryd.params3] at hA hval
  obtain ⟨v0, vs0, d0, ds0, p0, q0, hargs, rfl, rfl, h0, r0⟩ := trodAll_cons hA
  obtain ⟨rfl, rfl, rfl⟩ := trodAll_nil r0
  obtain rfl : args = #[v0] := by cases args; simp_all
  obtain ⟨rfl, rfl⟩ := trodVars_none hV
  obtain ⟨a0, len0, cap0, rfl⟩ := okWide_slice Tryd.underlying22 (hval 0 22 v0 rfl rfl)
  have k0 := h0
  have lt0 : ∀ x ∈ p0, x.block < W.heap.size := by obtain ⟨m, hm⟩ := k0; exact DataW.trod_lt m _ _ _ hm
  obtain ⟨z0, wz0, wr0, wc0, wm0⟩ : ∃ zs : List Int, zs.length = len0 * 12 ∧ ArrI W a0 zs ∧ len0 ≤ cap0 ∧ len0 ≤ maxLen := by
    obtain ⟨fuel, hf⟩ := h0
    obtain ⟨x, l, c, zs, hcs, hz, hA, hle, hmx⟩ := openRow_Rule hf
    simp [Value.cells] at hcs
    obtain ⟨rfl, rfl, rfl⟩ := hcs
    exact ⟨zs, hz, hA, hle, hmx⟩
  clear hA0 hval0
  refine (walkShowRules a0 len0 cap0 z0 W wz0 wr0 wc0 wm0 (tabOf hL)).mono fun e W' ⟨he, bel⟩ => ?_
  subst he
  exact ⟨_, rfl, _, _, _, [], _, [], hW', trodAll_mk1 (shut_bool Tryd.underlying4 _), (trodAll_cons_mk (Below.trod laidOut (by kernel_rfl) (of_decide_eq_true (by kernel_rfl)) k0 bel lt0) trodAll_mk0), rfl, bel.frame _, fun h => by cases h⟩
theorem fnExactShowRules_said : Rows.FnExactShowRulesSaid :=
  OpenClaim.holds_of_wide 3 Tryd.f3 rfl rfl rfl rfl rfl rfl rfl ⟨rfl, rfl, rfl, rfl, rfl⟩ rfl rfl rfl rfl rfl (by kernel_rfl) Tryd.func3 (by kernel_rfl)
    (of_decide_eq_true (by kernel_rfl)) (by unfold Func.isWrapper; first | (rw [if_pos (by decide +kernel)]; kernel_rfl) | (rw [if_neg (by decide +kernel)]; exact ⟨rfl, rfl⟩))
    (fun os started H enc _ => fnExactShowRules_lifted os started H enc)
theorem fnExactShowRules_plain (f : FuncId) (fn : Func) (hf : Tryd.pinned.checked.prog.funcNamed "loop.example/g00003/laws.FnExactShowRules" = some f) (hfn : Tryd.pinned.checked.prog.funcs[f]? = some fn) :
    true = Tryd.pinned.checked.prog.looks [] ∧ ∀ (j : Nat) t, fn.params[j]? = some t → Tryd.pinned.checked.prog.wantsStandIn t = false := by
  obtain rfl : f = 3 := Option.some.inj ((show Tryd.prog.funcNamed "loop.example/g00003/laws.FnExactShowRules" = some 3 by kernel_rfl).symm.trans hf) |>.symm
  obtain rfl : fn = Tryd.f3 := (Option.some.inj (Tryd.func3.symm.trans hfn)).symm
  refine ⟨by kernel_rfl, fun j t ht => ?_⟩
  rw [Tryd.params3] at ht
  have hm : t ∈ [22] := by simpa using Array.mem_of_getElem? ht
  have hall : ([22].all fun u => !Tryd.prog.wantsStandIn u) = true := by kernel_rfl
  exact (show Tryd.prog.wantsStandIn t = false by simpa using List.all_eq_true.1 hall t hm)
theorem fnExactShowRules_holds : Rows.FnExactShowRulesCardSaid :=
  Claim7.holds_tied_plain_at .later [] _ _ _ _ fnExactShowRules_said (fun _ h => by cases h) (by kernel_rfl) (fun _ h => by cases h) fnExactShowRules_row_tie rfl ⟨rfl, rfl⟩ (by kernel_rfl) rfl fnExactShowRules_plain (by kernel_rfl)
end Go.Proofs.YtjojeplffefnpaaDoor
