/-
At every input the law FnExactReadRules of the landed program answers true, and its arguments read afterwards as before.
No conditions.
-/
import Derived.Test.YtgegnkboibgbgaaRows
import Derived.WalkKit
import Derived.ProofKit
import Derived.OpenShut
import Derived.Test.YtgegnkboibgbgaaRux
import Derived.Test.YtgegnkboibgbgaaLrx
import Derived.Test.YtgegnkboibgbgaaRows
import Derived.ShutString
import Derived.Below
namespace Go.Proofs.Ytgegnkboibgbgaa
open Go.ChangeShapes Go.WideShapes Go.ChangeAt Go.RowKit
set_option linter.unusedVariables false
set_option maxRecDepth 100000
theorem rdL_lenU : ∀ (Lw : List (List (List UInt8))) (n : Nat) (acc : List Int) (i : Nat), acc.length ≤ 12 * n → n ≤ 64 → (rdL ruP 64 Lw n acc i).1.length ≤ 768
  | [], n, acc, i, h1, h2 => by show acc.length ≤ 768; omega
  | ws :: r, n, acc, i, h1, h2 => by
    unfold rdL
    by_cases h : ws.isEmpty = true
    · rw [if_pos h]; exact rdL_lenU r n acc (i + 1) h1 h2
    · rw [if_neg h]
      cases e : ruP ws with
      | none => show (0 : Nat) ≤ 768; omega
      | some zs =>
        have hz := ruP_len e
        by_cases hm : 64 ≤ n
        · simp only [if_pos hm]; show (0 : Nat) ≤ 768; omega
        · simp only [if_neg hm]
          exact rdL_lenU r (n + 1) (acc ++ zs) (i + 1) (by rw [List.length_append, hz]; omega) (by omega)
theorem rdAll_lenU (l : List UInt8) : (rdAll ruP 64 l).1.length ≤ 768 := by
  unfold rdAll
  split
  · show (0 : Nat) ≤ 768; omega
  · exact rdL_lenU _ 0 [] 0 (Nat.le_refl _) (Nat.zero_le _)
theorem walkReadRules (s : ByteArray) (hs : s.size ≤ maxLen) (w : World) :
    Calls Try.prog 4 #[.string s] w fun e w' => e = .returned (.bool true) ∧ Below w.heap.size w w' := by
  unfold maxLen at hs
  have hb : bs s.data.toList = s := bs_data s
  have hlen : s.data.toList.length = s.size := by rw [Array.length_toList]; rfl
  have hL := rdAll_lenU s.data.toList
  refine walkReadRules0 (fun _ => True) (fun _ _ _ _ => trivial) s (rdAll ruP 64 s.data.toList).1 (rdAll ruP 64 s.data.toList).2.1 (rdAll ruP 64 s.data.toList).2.2 ?_ ?_ (by omega) (by omega) w (by omega) trivial
  · intro W h1 _
    have h := specReadU s.data.toList W (by omega) _ rfl
    rw [hb] at h
    exact h
  · intro W h1 _
    have h := implReadU_walk s.data.toList W (by omega) _ rfl
    rw [hb] at h
    exact h

/-- What the walk is told of a slice of integers that came in: nil, or a row of 'cap' cells, the first 'len' of them its elements. -/
def IsRow (k : IntKind) (w : World) (a : Option Addr) (len cap : Nat) (zs : List Int) : Prop :=
  (a = none ∧ len = 0 ∧ cap = 0 ∧ zs = []) ∨
  ∃ x, a = some x ∧ len ≤ cap ∧ cap ≤ maxLen ∧ zs.length = cap ∧ (∀ i, i < zs.length → w.cell? (x.add i) = some (.int k (zs.getD i 0))) ∧ ∀ n ∈ zs, (Lit.int k n).wf = true
theorem cell_lt {w : World} {b o : Nat} {v : Value} (h : w.cell? ⟨b, o, none⟩ = some v) : b < w.heap.size := by
  by_cases hb : b < w.heap.size
  · exact hb
  · exfalso
    unfold World.cell? at h
    simp [Array.getElem?_eq_none (Nat.le_of_not_lt hb)] at h
theorem IsRow.arr {w : World} {a : Option Addr} {len cap : Nat} {zs : List Int} (h : IsRow .u8 w a len cap zs) : ∃ ys : List Int, ys.length = len ∧ Arr w a ys := by
  rcases h with ⟨rfl, rfl, rfl, rfl⟩ | ⟨x, rfl, hl, hm, hz, hcell, hwz⟩
  · exact ⟨[], rfl, by simp, fun j hj => by simp at hj⟩
  · refine ⟨zs.take len, by simp; omega, ?_, ?_⟩
    · intro z hz'
      have := hwz z (List.mem_of_mem_take hz')
      simpa [Lit.wf, IntKind.min, IntKind.max, IntKind.signed, IntKind.bits] using this
    · intro j hj
      have hj' : j < len := by simp at hj; omega
      obtain ⟨b, off, rfl, hc⟩ := ints_at hcell (by omega)
      have h1 := hc j (by omega)
      refine ⟨b, off, rfl, cell_lt h1, ?_⟩
      rw [h1, List.getD_eq_getElem?_getD, List.getD_eq_getElem?_getD, List.getElem?_take, if_pos hj']

open Go.ChangeMaps (open_string shut_string)
theorem own : ownKnob Try.prog.godebug = none := by kernel_rfl

set_option maxRecDepth 100000 in
theorem fnExactReadRules_lifted (os : Os) (started : os.Started) (H : Type) (enc : TypeId × Value → H) :
    ReturnsInHanded {} Try.checked os 4 .any (Rows.fnExactReadRulesSpec.pre6 enc Try.prog Try.f4 Rows.fnExactReadRulesRow.domain false) (Rows.fnExactReadRulesSpec.post enc Try.prog Try.f4 false true false false) := by
  refine returnsInHanded_of_change (C := Try.checked) own started (by kernel_rfl) Try.func4
    (ChangeSpec.witness6 (enc := enc) (C := Try.checked) false ⟨#[], #[.string ByteArray.empty], []⟩ 8 (by kernel_rfl) (by kernel_rfl) (by kernel_rfl) (by kernel_rfl)) ?_
  intro W base args ds gs before hval0 hW hcnd _
  have hval : ∀ (j : Nat) t v, Try.f4.params[j]? = some t → args[j]? = some v → Value.okWide Try.prog W .any base t v := hval0
  have hW' := hW
  obtain ⟨p, q, hA0, hV, rfl, hfz, hnd⟩ := hW
  have hA : DataW.TrodAll enc Try.prog W 0 (fun _ => true) true Try.f4.params.toList args.toList ds p := hA0
  rw [Try.params4] at hA hval
  obtain ⟨v0, vs0, d0, ds0, p0, q0, hargs, rfl, rfl, h0, r0⟩ := trodAll_cons hA
  obtain ⟨rfl, rfl, rfl⟩ := trodAll_nil r0
  obtain rfl : args = #[v0] := by cases args; simp_all
  obtain ⟨rfl, rfl⟩ := trodVars_none hV
  obtain ⟨a0, rfl, rfl, rfl, w0⟩ := open_string Try.underlying9 (hval 0 9 v0 rfl rfl) h0
  clear hA0 hval0
  refine (walkReadRules a0 w0 W).mono fun e W' ⟨he, bel⟩ => ?_
  subst he
  exact ⟨_, rfl, _, _, _, [], _, [], hW', trodAll_mk1 (shut_bool Try.underlying4 _), (trodAll_cons_mk (shut_string Try.underlying9 w0) trodAll_mk0), rfl, bel.frame _, fun h => by cases h⟩

theorem fnExactReadRules_over : Rows.fnExactReadRulesRow.holds Try.pinned (OpenSpec.ofChange Rows.fnExactReadRulesSpec) :=
  OpenClaim.holds_of_wide 4 Try.f4 rfl rfl rfl rfl rfl rfl rfl ⟨rfl, rfl, rfl, rfl, rfl⟩ rfl rfl rfl rfl rfl (by kernel_rfl) Try.func4 (by kernel_rfl)
    (of_decide_eq_true (by kernel_rfl)) (by unfold Func.isWrapper; first | (rw [if_pos (by decide +kernel)]; kernel_rfl) | (rw [if_neg (by decide +kernel)]; exact ⟨rfl, rfl⟩))
    (fun os started H enc _ => fnExactReadRules_lifted os started H enc)

theorem fnExactReadRules_holds : Rows.FnExactReadRulesSaid :=
  fnExactReadRules_over
end Go.Proofs.Ytgegnkboibgbgaa
