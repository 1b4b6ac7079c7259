/-
At every input the law FnExactFalseHead of the landed program answers true, and its arguments read afterwards as before.
No conditions.
-/
import Derived.Test.YtakoagfeiolkjaaRows
import Derived.WalkKit
import Derived.ProofKit
import Derived.OpenShut
import Derived.Test.YtakoagfeiolkjaaFhi
import Derived.Test.YtakoagfeiolkjaaLfh
import Derived.Test.YtakoagfeiolkjaaRows
import Derived.ShutString
import Derived.Below
namespace Go.Proofs.Ytakoagfeiolkjaa
open Go.ChangeShapes Go.WideShapes Go.ChangeAt Go.RowKit
set_option linter.unusedVariables false
set_option maxRecDepth 100000
theorem litb_own (w : World) (zs : List Int) (hz : ∀ z ∈ zs, 0 ≤ z ∧ z ≤ 255) (hm : zs.length ≤ 1048576) : OwnB (w.alloc (.cells (bval zs).toArray 5)) w.heap.size (.slice (some ⟨w.heap.size, 0, none⟩) zs.length zs.length) zs :=
  ⟨World.ownsRow_lit (base := w.heap.size) (e := 5) (size := 1) w (bval zs).toArray zs.length (Nat.le_refl _) (by unfold maxLen; omega) (by simp [bval]), hz⟩
theorem fhB_eq (s d p l : Int) : (putL s 4 ++ putL d 4) ++ [0, p % 256] ++ putL l 2 = fhB s d p l := by
  unfold fhB
  have e : putL p 1 = [p % 256] := by unfold putL byteOf; simp
  rw [e]
  simp
set_option maxHeartbeats 4000000 in
theorem specFH_walk (s d p l : Int) (w : World) :
    Calls Try.prog 15 #[.int .i64 s, .int .i64 d, .int .i64 p, .int .i64 l] w fun e w' => ∃ u : Value, e = .returned u ∧ OwnB w' w.heap.size u (fhB s d p l) ∧ Below w.heap.size w w' := by
  have C1 := hide (fun W => l03Put_any s 4 W (by omega))
  have C2 := hide (fun W => l03Put_any d 4 W (by omega))
  have C3 := hide (fun W => l03Put_any l 2 W (by omega))
  go_enter Try.func15, Try.ntmps15
  go_wp2_with fail
  refine (C1.out _).mono ?_
  rintro e w1 ⟨u1, rfl, hO1, hb1⟩
  have HO1 := hide hO1
  clear C1 hO1
  go_wp2_with fail
  refine (C2.out _).mono ?_
  rintro e w2 ⟨u2, rfl, hO2, hb2⟩
  have CJ := hide (l01Join_from u1 u2 _ _ w.heap.size _ _ w2 (Nat.le_trans hb1.size hb2.size) (HO1.out.next hb2) hO2 (by rw [putL_len]; omega) (by rw [putL_len]; omega))
  have HB2 := hide (hb1.trans (hb2.mono hb1.size))
  clear C2 hO2 HO1 hb1 hb2
  go_wp2_with fail
  refine CJ.out.mono ?_
  rintro e w3 ⟨u3, rfl, hO3, hb3⟩
  have HB3 := hide (HB2.out.trans (hb3.mono HB2.out.size))
  have HO3 := hide hO3
  clear CJ HB2 hO3 hb3
  have e1 : IntKind.u8.wrap p = p % 256 := IntKind.wrap_u8 p
  have hL : OwnB (w3.alloc (.cells #[.int .u8 0, .int .u8 (p % 256)] 5)) w3.heap.size (.slice (some ⟨w3.heap.size, 0, none⟩) 2 2) [0, p % 256] := litb_own w3 [0, p % 256] (by intro z hz; simp at hz; omega) (by simp)
  have hbl := (Below.refl w3.heap.size w3).alloc (Nat.le_refl _) (.cells #[.int .u8 0, .int .u8 (p % 256)] 5)
  have CJ := hide (l01Join_from u3 (.slice (some ⟨w3.heap.size, 0, none⟩) 2 2) _ _ w.heap.size _ _ _ (Nat.le_trans HB3.out.size hbl.size) (HO3.out.next hbl) hL (by rw [List.length_append, putL_len, putL_len]; omega) (by simp))
  have HB4 := hide (HB3.out.trans (hbl.mono HB3.out.size))
  clear hL hbl HB3 HO3
  go_wp2_with fail
  refine CJ.out.mono ?_
  rintro e w4 ⟨u4, rfl, hO4, hb4⟩
  have HB5 := hide (HB4.out.trans (hb4.mono HB4.out.size))
  have HO4 := hide hO4
  clear CJ HB4 hO4 hb4
  go_wp2_with fail
  refine (C3.out _).mono ?_
  rintro e w5 ⟨u5, rfl, hO5, hb5⟩
  have CJ := hide (l01Join_from u4 u5 _ _ w.heap.size _ _ w5 (Nat.le_trans HB5.out.size hb5.size) (HO4.out.next hb5) hO5 (by simp [putL_len]) (by rw [putL_len]; omega))
  have HB6 := hide (HB5.out.trans (hb5.mono HB5.out.size))
  clear C3 HB5 HO4 hO5 hb5
  go_wp2_with fail
  refine CJ.out.mono ?_
  rintro e w6 ⟨u6, rfl, hO6, hb6⟩
  have HB7 := hide (HB6.out.trans (hb6.mono HB6.out.size))
  rw [fhB_eq] at hO6
  have HO6 := hide hO6
  clear CJ HB6 hO6 hb6
  go_wp2_with fail
  go_ret
  exact ⟨u6, rfl, HO6.out, HB7.out⟩

/-- FalseHead of the model and of the program. -/
theorem specFH (s d p l : Int) : FalseHeadP 15 (fun _ => True) s d p l (fhB s d p l) := fun W _ => specFH_walk s d p l W
theorem implFH (s d p l : Int) : FalseHeadP 16 (fun _ => True) s d p l (fhB s d p l) := by
  intro W _
  refine (falseHead_walk s d p l W).mono ?_
  rintro e w' ⟨G, rfl, hG, hr, hb⟩
  have h := hr.own hG (fhB_bd s d p l) (by rw [fhB_len]; omega)
  rw [fhB_len] at h
  exact ⟨_, rfl, h, hb⟩
theorem walkFalseHead (s d p l : Int) (_ : (Lit.int .i64 s).wf = true) (_ : (Lit.int .i64 d).wf = true) (_ : (Lit.int .i64 p).wf = true) (_ : (Lit.int .i64 l).wf = true) (w : World) :
    Calls Try.prog 5 #[.int .i64 s, .int .i64 d, .int .i64 p, .int .i64 l] w fun e w' => e = .returned (.bool true) ∧ Below w.heap.size w w' :=
  walkFalseHead1 (fun _ => True) (fun _ _ _ _ => trivial) s d p l _ (specFH s d p l) (implFH s d p l) (by rw [fhB_len]; omega) w trivial

/-- What the walk is told of a slice of integers that came in: nil, or a row of 'cap' cells, the first 'len' of them its elements. -/
def IsRow (k : IntKind) (w : World) (a : Option Addr) (len cap : Nat) (zs : List Int) : Prop :=
  (a = none ∧ len = 0 ∧ cap = 0 ∧ zs = []) ∨
  ∃ x, a = some x ∧ len ≤ cap ∧ cap ≤ maxLen ∧ zs.length = cap ∧ (∀ i, i < zs.length → w.cell? (x.add i) = some (.int k (zs.getD i 0))) ∧ ∀ n ∈ zs, (Lit.int k n).wf = true
theorem cell_lt {w : World} {b o : Nat} {v : Value} (h : w.cell? ⟨b, o, none⟩ = some v) : b < w.heap.size := by
  by_cases hb : b < w.heap.size
  · exact hb
  · exfalso
    unfold World.cell? at h
    simp [Array.getElem?_eq_none (Nat.le_of_not_lt hb)] at h
theorem IsRow.arr {w : World} {a : Option Addr} {len cap : Nat} {zs : List Int} (h : IsRow .u8 w a len cap zs) : ∃ ys : List Int, ys.length = len ∧ Arr w a ys := by
  rcases h with ⟨rfl, rfl, rfl, rfl⟩ | ⟨x, rfl, hl, hm, hz, hcell, hwz⟩
  · exact ⟨[], rfl, by simp, fun j hj => by simp at hj⟩
  · refine ⟨zs.take len, by simp; omega, ?_, ?_⟩
    · intro z hz'
      have := hwz z (List.mem_of_mem_take hz')
      simpa [Lit.wf, IntKind.min, IntKind.max, IntKind.signed, IntKind.bits] using this
    · intro j hj
      have hj' : j < len := by simp at hj; omega
      obtain ⟨b, off, rfl, hc⟩ := ints_at hcell (by omega)
      have h1 := hc j (by omega)
      refine ⟨b, off, rfl, cell_lt h1, ?_⟩
      rw [h1, List.getD_eq_getElem?_getD, List.getD_eq_getElem?_getD, List.getElem?_take, if_pos hj']

open Go.ChangeMaps (open_string shut_string)
theorem own : ownKnob Try.prog.godebug = none := by kernel_rfl

set_option maxRecDepth 100000 in
theorem fnExactFalseHead_lifted (os : Os) (started : os.Started) (H : Type) (enc : TypeId × Value → H) :
    ReturnsInHanded {} Try.checked os 5 .any (Rows.fnExactFalseHeadSpec.pre6 enc Try.prog Try.f5 Rows.fnExactFalseHeadRow.domain false) (Rows.fnExactFalseHeadSpec.post enc Try.prog Try.f5 false true false false) := by
  refine returnsInHanded_of_change (C := Try.checked) own started (by kernel_rfl) Try.func5
    (ChangeSpec.witness6 (enc := enc) (C := Try.checked) false ⟨#[], #[.int .i64 0, .int .i64 0, .int .i64 0, .int .i64 0], []⟩ 8 (by kernel_rfl) (by kernel_rfl) (by kernel_rfl) (by kernel_rfl)) ?_
  intro W base args ds gs before hval0 hW hcnd _
  have hval : ∀ (j : Nat) t v, Try.f5.params[j]? = some t → args[j]? = some v → Value.okWide Try.prog W .any base t v := hval0
  have hW' := hW
  obtain ⟨p, q, hA0, hV, rfl, hfz, hnd⟩ := hW
  have hA : DataW.TrodAll enc Try.prog W 0 (fun _ => true) true Try.f5.params.toList args.toList ds p := hA0
  rw [Try.params5] at hA hval
  obtain ⟨v0, vs0, d0, ds0, p0, q0, hargs, rfl, rfl, h0, r0⟩ := trodAll_cons hA
  obtain ⟨v1, vs1, d1, ds1, p1, q1, rfl, rfl, rfl, h1, r1⟩ := trodAll_cons r0
  obtain ⟨v2, vs2, d2, ds2, p2, q2, rfl, rfl, rfl, h2, r2⟩ := trodAll_cons r1
  obtain ⟨v3, vs3, d3, ds3, p3, q3, rfl, rfl, rfl, h3, r3⟩ := trodAll_cons r2
  obtain ⟨rfl, rfl, rfl⟩ := trodAll_nil r3
  obtain rfl : args = #[v0, v1, v2, v3] := by cases args; simp_all
  obtain ⟨rfl, rfl⟩ := trodVars_none hV
  obtain ⟨a0, rfl, rfl, rfl, w0⟩ := open_int Try.underlying2 (hval 0 2 v0 rfl rfl) h0
  obtain ⟨a1, rfl, rfl, rfl, w1⟩ := open_int Try.underlying2 (hval 1 2 v1 rfl rfl) h1
  obtain ⟨a2, rfl, rfl, rfl, w2⟩ := open_int Try.underlying2 (hval 2 2 v2 rfl rfl) h2
  obtain ⟨a3, rfl, rfl, rfl, w3⟩ := open_int Try.underlying2 (hval 3 2 v3 rfl rfl) h3
  clear hA0 hval0
  refine (walkFalseHead a0 a1 a2 a3 w0 w1 w2 w3 W).mono fun e W' ⟨he, bel⟩ => ?_
  subst he
  exact ⟨_, rfl, _, _, _, [], _, [], hW', trodAll_mk1 (shut_bool Try.underlying4 _), (trodAll_cons_mk (shut_int Try.underlying2 w0) (trodAll_cons_mk (shut_int Try.underlying2 w1) (trodAll_cons_mk (shut_int Try.underlying2 w2) (trodAll_cons_mk (shut_int Try.underlying2 w3) trodAll_mk0)))), rfl, bel.frame _, fun h => by cases h⟩

theorem fnExactFalseHead_over : Rows.fnExactFalseHeadRow.holds Try.pinned (OpenSpec.ofChange Rows.fnExactFalseHeadSpec) :=
  OpenClaim.holds_of_wide 5 Try.f5 rfl rfl rfl rfl rfl rfl rfl ⟨rfl, rfl, rfl, rfl, rfl⟩ rfl rfl rfl rfl rfl (by kernel_rfl) Try.func5 (by kernel_rfl)
    (of_decide_eq_true (by kernel_rfl)) (by unfold Func.isWrapper; first | (rw [if_pos (by decide +kernel)]; kernel_rfl) | (rw [if_neg (by decide +kernel)]; exact ⟨rfl, rfl⟩))
    (fun os started H enc _ => fnExactFalseHead_lifted os started H enc)

theorem fnExactFalseHead_holds : Rows.FnExactFalseHeadSaid :=
  fnExactFalseHead_over
end Go.Proofs.Ytakoagfeiolkjaa
