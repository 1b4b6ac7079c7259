/-
Contracts of functions of this seat.
-/
import Derived.Test.YtnnijikfppijfaaRows
import Derived.WalkKit
import Derived.ProofKit
import Derived.OpenShut
import Derived.Test.YtnnijikfppijfaaRb
import Derived.Lib.SmallJoins
namespace Go.Proofs.Ytnnijikfppijfaa
open Go.ChangeShapes Go.WideShapes Go.ChangeAt Go.RowKit
set_option linter.unusedVariables false
set_option maxRecDepth 100000
/-- A Rto is valid. -/
def rtoB (s v r : Int) (k : Bool) : Bool := inB s 0 8000000 && inB v 0 4000000 && inB r 200 60000 && (k || (s == 0 && v == 0))
theorem inB_no {x l h : Int} (hh : ¬ (l ≤ x ∧ x ≤ h)) : inB x l h = false := by unfold inB; exact decide_eq_false hh
theorem rtoB_iff {s v r : Int} {k : Bool} : rtoB s v r k = true ↔ (0 ≤ s ∧ s ≤ 8000000) ∧ (0 ≤ v ∧ v ≤ 4000000) ∧ (200 ≤ r ∧ r ≤ 60000) ∧ (k = true ∨ (s = 0 ∧ v = 0)) := by
  unfold rtoB
  simp only [Bool.and_eq_true, inB_iff, Bool.or_eq_true, beq_iff_eq]
  constructor
  · rintro ⟨⟨⟨a, b⟩, c⟩, d⟩; exact ⟨a, b, c, d⟩
  · rintro ⟨a, b, c, d⟩; exact ⟨⟨⟨a, b⟩, c⟩, d⟩
set_option maxHeartbeats 4000000 in
theorem l13OK_walk (s v r : Int) (k : Bool) (w : World) : Calls Try.prog 42 #[.agg #[.int .i64 s, .int .i64 v, .int .i64 r, .bool k]] w fun e w' => e = .returned (.bool (rtoB s v r k)) ∧ Below w.heap.size w w' := by
  have HB : Hid (HoldV (w.alloc (.cells #[.int .i64 s, .int .i64 v, .int .i64 r, .bool k] 23)) w.heap.size _ 23) := hide (heap_alloc_new _ _)
  have HW := hide ((Below.refl w.heap.size w).alloc (Nat.le_refl _) (.cells #[.int .i64 s, .int .i64 v, .int .i64 r, .bool k] 23))
  have k0 := HB.out.cell 0 _ rfl; have k1 := HB.out.cell 1 _ rfl; have k2 := HB.out.cell 2 _ rfl; have k3 := HB.out.cell 3 _ rfl
  cases h0 : inB s 0 8000000 with
  | false =>
    have E : Hid (rtoB s v r k = false) := hide (by unfold rtoB; rw [h0]; simp)
    go_enter Try.func42, Try.ntmps42
    go_wp2_with (go_at_call 33; refine (In_walk _ _ _ _).mono ?_; rintro e w2 ⟨rfl, rfl⟩)
    go_ret
    exact ⟨ret_bool E.out.symm, HW.out⟩
  | true =>
    cases h1 : inB v 0 4000000 with
    | false =>
      have E : Hid (rtoB s v r k = false) := hide (by unfold rtoB; rw [h1]; simp)
      go_enter Try.func42, Try.ntmps42
      go_wp2_with (go_at_call 33; refine (In_walk _ _ _ _).mono ?_; rintro e w2 ⟨rfl, rfl⟩)
      go_ret
      exact ⟨ret_bool E.out.symm, HW.out⟩
    | true =>
      cases h2 : inB r 200 60000 with
      | false =>
        have E : Hid (rtoB s v r k = false) := hide (by unfold rtoB; rw [h2]; simp)
        go_enter Try.func42, Try.ntmps42
        go_wp2_with (go_at_call 33; refine (In_walk _ _ _ _).mono ?_; rintro e w2 ⟨rfl, rfl⟩)
        go_ret
        exact ⟨ret_bool E.out.symm, HW.out⟩
      | true =>
        cases k with
        | true =>
          have E : Hid (rtoB s v r true = true) := hide (by unfold rtoB; rw [h0, h1, h2]; simp)
          go_enter Try.func42, Try.ntmps42
          go_wp2_with (go_at_call 33; refine (In_walk _ _ _ _).mono ?_; rintro e w2 ⟨rfl, rfl⟩)
          go_ret
          exact ⟨ret_bool E.out.symm, HW.out⟩
        | false =>
          by_cases h3 : s = 0
          · subst h3
            by_cases h4 : v = 0
            · subst h4
              have E : Hid (rtoB 0 0 r false = true) := hide (by unfold rtoB; rw [h0, h1, h2]; simp)
              go_enter Try.func42, Try.ntmps42
              go_wp2_with (go_at_call 33; refine (In_walk _ _ _ _).mono ?_; rintro e w2 ⟨rfl, rfl⟩)
              go_ret
              exact ⟨ret_bool E.out.symm, HW.out⟩
            · have h5 : (v == 0) = false := beq_eq_false_iff_ne.2 h4
              have E : Hid (rtoB 0 v r false = false) := hide (by unfold rtoB; rw [h5]; simp)
              go_enter Try.func42, Try.ntmps42
              go_wp2_with (go_at_call 33; refine (In_walk _ _ _ _).mono ?_; rintro e w2 ⟨rfl, rfl⟩)
              go_ret
              exact ⟨ret_bool E.out.symm, HW.out⟩
          · have h5 : (s == 0) = false := beq_eq_false_iff_ne.2 h3
            have E : Hid (rtoB s v r false = false) := hide (by unfold rtoB; rw [h5]; simp)
            go_enter Try.func42, Try.ntmps42
            go_wp2_with (go_at_call 33; refine (In_walk _ _ _ _).mono ?_; rintro e w2 ⟨rfl, rfl⟩)
            go_ret
            exact ⟨ret_bool E.out.symm, HW.out⟩
theorem isRto_walk (n : Int) (w : World) : Calls Try.prog 50 #[.int .i64 n] w fun e w' => e = .returned (.bool (inB n 200 60000)) ∧ w' = w := by
  by_cases h : 200 ≤ n ∧ n ≤ 60000
  · rw [inB_iff.2 h]
    obtain ⟨h1, h2⟩ := h
    go_enter Try.func50, Try.ntmps50
    go_wp2
    go_ret
    exact ⟨rfl, rfl⟩
  · rw [inB_no h]
    by_cases h1 : 200 ≤ n
    · have h2 : ¬ n ≤ 60000 := fun h2 => h ⟨h1, h2⟩
      clear h
      go_enter Try.func50, Try.ntmps50
      go_wp2
      go_ret
      exact ⟨rfl, rfl⟩
    · clear h
      go_enter Try.func50, Try.ntmps50
      go_wp2
      go_ret
      exact ⟨rfl, rfl⟩
theorem isSample_walk (n : Int) (w : World) : Calls Try.prog 39 #[.int .i64 n] w fun e w' => e = .returned (.bool (inB n 0 1000000)) ∧ w' = w := by
  by_cases h : 0 ≤ n ∧ n ≤ 1000000
  · rw [inB_iff.2 h]
    obtain ⟨h1, h2⟩ := h
    go_enter Try.func39, Try.ntmps39
    go_wp2
    go_ret
    exact ⟨rfl, rfl⟩
  · rw [inB_no h]
    by_cases h1 : 0 ≤ n
    · have h2 : ¬ n ≤ 1000000 := fun h2 => h ⟨h1, h2⟩
      clear h
      go_enter Try.func39, Try.ntmps39
      go_wp2
      go_ret
      exact ⟨rfl, rfl⟩
    · clear h
      go_enter Try.func39, Try.ntmps39
      go_wp2
      go_ret
      exact ⟨rfl, rfl⟩
set_option maxHeartbeats 4000000 in
theorem validRto_walk (s v r : Int) (k : Bool) (w : World) : Calls Try.prog 38 #[.agg #[.int .i64 s, .int .i64 v, .int .i64 r, .bool k]] w fun e w' => e = .returned (.bool (rtoB s v r k)) ∧ Below w.heap.size w w' := by
  have HB : Hid (HoldV (w.alloc (.cells #[.int .i64 s, .int .i64 v, .int .i64 r, .bool k] 23)) w.heap.size _ 23) := hide (heap_alloc_new _ _)
  have HW := hide ((Below.refl w.heap.size w).alloc (Nat.le_refl _) (.cells #[.int .i64 s, .int .i64 v, .int .i64 r, .bool k] 23))
  have k0 := HB.out.cell 0 _ rfl; have k1 := HB.out.cell 1 _ rfl; have k2 := HB.out.cell 2 _ rfl; have k3 := HB.out.cell 3 _ rfl
  cases k with
  | true =>
    by_cases h0 : 0 ≤ s
    · skip
      by_cases h1 : s ≤ 8000000
      · skip
        by_cases h2 : 0 ≤ v
        · skip
          by_cases h3 : v ≤ 4000000
          · skip
            have E : Hid (rtoB s v r true = inB r 200 60000) := hide (by unfold rtoB; rw [inB_iff.2 ⟨h0, h1⟩, inB_iff.2 ⟨h2, h3⟩]; simp)
            go_enter Try.func38, Try.ntmps38
            go_wp2_with (go_at_call 50; refine (isRto_walk _ _).mono ?_; rintro e w2 ⟨rfl, rfl⟩)
            go_ret
            exact ⟨ret_bool E.out.symm, HW.out⟩
          · skip
            have E : Hid (rtoB s v r true = false) := hide (by rw [← Bool.not_eq_true, rtoB_iff]; omega)
            go_enter Try.func38, Try.ntmps38
            go_wp2_with (go_at_call 50; refine (isRto_walk _ _).mono ?_; rintro e w2 ⟨rfl, rfl⟩)
            go_ret
            exact ⟨ret_bool E.out.symm, HW.out⟩
        · skip
          have E : Hid (rtoB s v r true = false) := hide (by rw [← Bool.not_eq_true, rtoB_iff]; omega)
          go_enter Try.func38, Try.ntmps38
          go_wp2_with (go_at_call 50; refine (isRto_walk _ _).mono ?_; rintro e w2 ⟨rfl, rfl⟩)
          go_ret
          exact ⟨ret_bool E.out.symm, HW.out⟩
      · skip
        have E : Hid (rtoB s v r true = false) := hide (by rw [← Bool.not_eq_true, rtoB_iff]; omega)
        go_enter Try.func38, Try.ntmps38
        go_wp2_with (go_at_call 50; refine (isRto_walk _ _).mono ?_; rintro e w2 ⟨rfl, rfl⟩)
        go_ret
        exact ⟨ret_bool E.out.symm, HW.out⟩
    · skip
      have E : Hid (rtoB s v r true = false) := hide (by rw [← Bool.not_eq_true, rtoB_iff]; omega)
      go_enter Try.func38, Try.ntmps38
      go_wp2_with (go_at_call 50; refine (isRto_walk _ _).mono ?_; rintro e w2 ⟨rfl, rfl⟩)
      go_ret
      exact ⟨ret_bool E.out.symm, HW.out⟩
  | false =>
    by_cases h3 : s = 0
    · subst h3
      by_cases h4 : v = 0
      · subst h4
        have E : Hid (rtoB 0 0 r false = inB r 200 60000) := hide (by unfold rtoB; rw [inB_iff.2 ⟨by omega, by omega⟩, inB_iff.2 ⟨by omega, by omega⟩]; simp)
        go_enter Try.func38, Try.ntmps38
        go_wp2_with (go_at_call 50; refine (isRto_walk _ _).mono ?_; rintro e w2 ⟨rfl, rfl⟩)
        go_ret
        exact ⟨ret_bool E.out.symm, HW.out⟩
      · have h5 : (v == 0) = false := beq_eq_false_iff_ne.2 h4
        have E : Hid (rtoB 0 v r false = false) := hide (by unfold rtoB; rw [h5]; simp)
        go_enter Try.func38, Try.ntmps38
        go_wp2_with (go_at_call 50; refine (isRto_walk _ _).mono ?_; rintro e w2 ⟨rfl, rfl⟩)
        go_ret
        exact ⟨ret_bool E.out.symm, HW.out⟩
    · have h5 : (s == 0) = false := beq_eq_false_iff_ne.2 h3
      have E : Hid (rtoB s v r false = false) := hide (by unfold rtoB; rw [h5]; simp)
      go_enter Try.func38, Try.ntmps38
      go_wp2_with (go_at_call 50; refine (isRto_walk _ _).mono ?_; rintro e w2 ⟨rfl, rfl⟩)
      go_ret
      exact ⟨ret_bool E.out.symm, HW.out⟩

/-- A struct of numbers by value: each of its cells reads at its field's type. -/
theorem agg_cells {H : Type} {enc : TypeId × Value → H} {P : Program} {w : World} {base b0 : Nat} {spare : Nat → Bool} {held : Bool} {r : Reach} {t : TypeId} {fs : Array Field} {v : Value} {d : DataW H} {p : List MemPlace} (hs : P.underlying t = some (.struct fs)) (hone : Go.Deep.oneCellFields P fs = true)
    (hv : Value.okWide P w r b0 t v) (h : DataW.Trod enc P w base spare held t v d p) :
    ∃ cs : Array Value, v = .agg cs ∧ cs.size = P.cellsOf t ∧ ∀ (i : Nat) (f : Field) (c : Value), fs[i]? = some f → cs[i]? = some c → ∃ n y, DataW.trod enc P w base spare held n f.type [c] = some y := by
  obtain ⟨cs, rfl, hsz⟩ := okWide_struct hs hv
  obtain ⟨fuel, hf⟩ := h
  obtain ⟨xs, n, _, _, hl, hlen, hr⟩ := DataW.trod_struct hs hf
  refine ⟨cs, rfl, hsz, fun i f c hi hc => ?_⟩
  obtain ⟨ho, hk⟩ := Go.Deep.hone_of hone i f hi
  have hlt : i < xs.length := by
    rw [hlen]; exact (Array.getElem?_eq_some_iff.1 hi).1
  have h1 := hr i f hi
  have e : (((Value.agg cs).cells.toList.drop f.offset).take (P.cellsOf f.type)) = [c] := by
    rw [ho, hk]
    have hc' : cs.toList[i]? = some c := by simpa using hc
    obtain ⟨hlt', e'⟩ := List.getElem?_eq_some_iff.1 hc'
    simp only [Value.cells]
    rw [List.drop_eq_getElem_cons hlt', e']
    rfl
  rw [e] at h1
  exact ⟨n, _, h1.trans (List.getElem?_eq_getElem hlt)⟩

set_option maxHeartbeats 2000000 in
theorem toRto_walk (x0 : Int) (x1 : Int) (x2 : Int) (x3 : Bool) (w : World) : Calls Try.prog 26 #[.agg #[.int .i64 x0, .int .i64 x1, .int .i64 x2, .bool x3]] w fun e w' => e = .returned (.agg #[.int .i64 x0, .int .i64 x1, .int .i64 x2, .bool x3]) ∧ Below w.heap.size w w' := by
  go_enter Try.func26, Try.ntmps26
  go_wp2_with fail
  exact bodyPost_ret (v := .agg #[.int .i64 x0, .int .i64 x1, .int .i64 x2, .bool x3]) (by simp [results, Try.results26, go_sem]) rfl ⟨rfl, (((Below.refl _ _).alloc (Nat.le_refl _) _).alloc (by simp) _).alloc (by simp; omega) _⟩
set_option maxHeartbeats 2000000 in
theorem eqRto_walk (x0 : Int) (x1 : Int) (x2 : Int) (x3 : Bool) (w : World) : Calls Try.prog 11 #[.agg #[.int .i64 x0, .int .i64 x1, .int .i64 x2, .bool x3], .agg #[.int .i64 x0, .int .i64 x1, .int .i64 x2, .bool x3]] w fun e w' => e = .returned (.bool true) ∧ Below w.heap.size w w' := by
  have nb3 : (x3 != x3) = false := by simp
  go_enter Try.func11, Try.ntmps11
  go_wp2
  go_ret
  exact ⟨rfl, ((Below.refl w.heap.size w).alloc (Nat.le_refl _) _).alloc (by simp) _⟩
theorem cellsRto {α : Type} {cs : Array α} (h : cs.size = 4) : ∃ k0 k1 k2 k3, cs = #[k0, k1, k2, k3] := by
  obtain ⟨l⟩ := cs
  match l, h with
  | [k0, k1, k2, k3], _ => exact ⟨k0, k1, k2, k3, rfl⟩
theorem openRto {H : Type} {enc : TypeId × Value → H} {w : World} {base b0 : Nat} {held : Bool} {r : Reach} {v : Value} {d : DataW H} {p : List MemPlace} (hv : Value.okWide Try.prog w r b0 56 v) (h : DataW.Trod enc Try.prog w base (fun _ => true) held 56 v d p) :
    ∃ (x0 : Int) (x1 : Int) (x2 : Int) (x3 : Bool), v = .agg #[.int .i64 x0, .int .i64 x1, .int .i64 x2, .bool x3] := by
  obtain ⟨cs, rfl, hsz, hr⟩ := agg_cells Try.underlying56 (by kernel_rfl) hv h
  have hC : Try.prog.cellsOf 56 = 4 := by kernel_rfl
  obtain ⟨k0, k1, k2, k3, rfl⟩ := cellsRto (hsz.trans hC)
  obtain ⟨m0, y0, r0⟩ := hr 0 _ k0 rfl rfl
  obtain ⟨x0, e0, _, _⟩ := DataW.trod_int Try.underlying2 r0
  simp at e0
  subst e0
  obtain ⟨m1, y1, r1⟩ := hr 1 _ k1 rfl rfl
  obtain ⟨x1, e1, _, _⟩ := DataW.trod_int Try.underlying2 r1
  simp at e1
  subst e1
  obtain ⟨m2, y2, r2⟩ := hr 2 _ k2 rfl rfl
  obtain ⟨x2, e2, _, _⟩ := DataW.trod_int Try.underlying2 r2
  simp at e2
  subst e2
  obtain ⟨m3, y3, r3⟩ := hr 3 _ k3 rfl rfl
  obtain ⟨x3, e3, _⟩ := DataW.trod_bool Try.underlying4 r3
  simp at e3
  subst e3
  exact ⟨x0, x1, x2, x3, rfl⟩
/-- What is wanted of a function that answers a Rto and a code. -/
def ExCRto (f : Nat) (ar : Array Value) (r0 : Int) (r1 : Int) (r2 : Int) (r3 : Bool) (code : Int) : Prop := ∀ (w : World), Calls Try.prog f ar w fun e w' => e = .returned (.tuple #[.agg #[.int .i64 r0, .int .i64 r1, .int .i64 r2, .bool r3], .int .i64 code]) ∧ Below w.heap.size w w'
end Go.Proofs.Ytnnijikfppijfaa
