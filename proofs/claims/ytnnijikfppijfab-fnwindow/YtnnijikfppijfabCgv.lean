/-
Contracts of functions of this seat.
-/
import Derived.Test.YtnnijikfppijfabRows
import Derived.WalkKit
import Derived.ProofKit
import Derived.OpenShut
import Derived.Test.YtnnijikfppijfabCgk
import Derived.Lib.QuietBelow
import Derived.BigQuiet
import Derived.StillTailTactics
import Derived.Lib.SmallJoins
namespace Go.Proofs.Ytnnijikfppijfab
open Go.ChangeShapes Go.WideShapes Go.ChangeAt Go.RowKit
set_option linter.unusedVariables false
set_option maxRecDepth 100000
theorem box_facts (w : World) (x y : Value) (t : Nat) : Below w.heap.size w (w.alloc (.cells #[x, y] t)) ∧ (w.alloc (.cells #[x, y] t)).cell? ⟨w.heap.size, 0, none⟩ = some x ∧ (w.alloc (.cells #[x, y] t)).cell? ⟨w.heap.size, 1, none⟩ = some y := by
  refine ⟨(Below.refl _ _).alloc (Nat.le_refl _) _, ?_, ?_⟩
  · exact cell_of_row _ w.heap.size 0 #[x, y] t (0, 0) (heap_alloc_new w _)
  · exact cell_of_row _ w.heap.size 1 #[x, y] t (0, 0) (heap_alloc_new w _)
theorem below_then {w W : World} (h : Below w.heap.size w W) (d : Nat) (os : Array Obj) : Below w.heap.size w (Go.Sort.grow (redrawn W d) os) :=
  h.trans ((below_regrown W d os).mono h.size)

theorem still_of_quiet {P : Program} {ops : Array Oper} {w : World} {Q : Act → Prop} : ∀ (l : List Oper) (a : Act), wpQuiet P ops (fun w' => w' = w) Q l a → wpStill P ops w Q l a
  | [], _, h => h
  | o :: rest, a, h => by
    unfold wpQuiet at h
    unfold wpStill
    by_cases hw : Region.wanted o (yielded ops a.tmps) = true
    · rw [if_pos hw] at h ⊢
      obtain ⟨v, h1, h2⟩ := h
      have h3 := h1 w rfl
      have h4 := still_of_quiet rest _ h2
      unfold Oper.quietAt at h3
      unfold Oper.still
      revert h3
      generalize (execOp a.eval o).run P w = R
      intro h3
      unfold Oper.quietUpon at h3
      unfold Oper.stillUpon
      split at h3
      · obtain ⟨rfl, rfl⟩ := h3
        exact ⟨rfl, h4⟩
      · obtain ⟨rfl, rfl⟩ := h3
        exact ⟨rfl, h4⟩
      · obtain ⟨rfl, hc⟩ := h3
        exact ⟨rfl, v, hc, h4⟩
      · exact h3.elim
    · rw [if_neg hw] at h ⊢
      exact still_of_quiet rest _ h
/-- A region that only looks, and then does what has waited for all of it. -/
theorem region_tail {P : Program} {id : Nat} {Q : Exit → Act → World → Prop} {a : Act} {w : World} {l : List Oper} (n : Nat) (hm : P.follows .mixedOrders = true) (hB : Region.lexTailB .any l.toArray n = true)
    (h : wpQuiet P l.toArray (fun w' => w' = w.drew) (fun a' => wpList P l.toArray Q (l.drop n) a' w.drew) (l.take n) a) : (Code.region id l.toArray true).wp P Q a w := wp_region_still_tail n hm hB (still_of_quiet _ _ h)

set_option maxHeartbeats 4000000 in
theorem validCong_walk (m c t n : Int) (w : World) : Calls Try.prog 39 #[.agg #[.int .i64 m, .int .i64 c, .int .i64 t, .int .i64 n]] w fun e w' => e = .returned (.bool (cgB m c t n)) ∧ Below w.heap.size w w' := by
  have HB : Hid (HoldV (w.alloc (.cells #[.int .i64 m, .int .i64 c, .int .i64 t, .int .i64 n] 32)) w.heap.size _ 32) := hide (heap_alloc_new _ _)
  have HW := hide ((((Below.refl w.heap.size w).alloc (Nat.le_refl _) (.cells #[.int .i64 m, .int .i64 c, .int .i64 t, .int .i64 n] 32))).drew)
  have k0 : ((w.alloc (.cells #[.int .i64 m, .int .i64 c, .int .i64 t, .int .i64 n] 32)).drew).cell? ⟨w.heap.size, 0, none⟩ = some (.int .i64 m) := HB.out.cell 0 _ rfl; have k1 : ((w.alloc (.cells #[.int .i64 m, .int .i64 c, .int .i64 t, .int .i64 n] 32)).drew).cell? ⟨w.heap.size, 1, none⟩ = some (.int .i64 c) := HB.out.cell 1 _ rfl; have k2 : ((w.alloc (.cells #[.int .i64 m, .int .i64 c, .int .i64 t, .int .i64 n] 32)).drew).cell? ⟨w.heap.size, 2, none⟩ = some (.int .i64 t) := HB.out.cell 2 _ rfl; have k3 : ((w.alloc (.cells #[.int .i64 m, .int .i64 c, .int .i64 t, .int .i64 n] 32)).drew).cell? ⟨w.heap.size, 3, none⟩ = some (.int .i64 n) := HB.out.cell 3 _ rfl
  clear HB
  have CM := hide (fun W => isMss_walk m W)
  have CC := hide (fun W => isCwnd_walk c m W)
  have CT := hide (fun W => isCwnd_walk t (2 * m) W)
  cases h0 : inB m 1 65535 with
  | false =>
    rw [h0] at CM
    have E : Hid (cgB m c t n = false) := hide (by
        unfold cgB; rw [h0]; simp)
    go_enter Try.func39, Try.ntmps39
    go_wp2_with fail
    refine region_tail 30 (by kernel_rfl) (by kernel_rfl) ?_
    generalize (w.alloc (.cells #[.int .i64 m, .int .i64 c, .int .i64 t, .int .i64 n] 32)).drew = V at *
    simp only [List.take_succ_cons, List.take_zero, List.drop_succ_cons, List.drop_zero]
    repeat (first | go_big_quiet_skip | (go_big_quiet_want; go_big_quiet_op; first | go_big_quiet_on | (apply Exists.intro; (first | with_reducible refine ⟨CM.out V, ?_⟩); go_big_quiet_on)))
    refine wpQuiet_nil ?_
    go_wp2
    go_ret
    exact ⟨ret_bool E.out.symm, HW.out⟩
  | true =>
    rw [h0] at CM
    obtain ⟨p0, q0⟩ := inB_iff.1 h0
    cases h1 : inB c m 1073741824 with
    | false =>
      rw [h1] at CC
      have E : Hid (cgB m c t n = false) := hide (by
          unfold cgB; rw [h1]; simp)
      go_enter Try.func39, Try.ntmps39
      go_wp2_with fail
      refine region_tail 30 (by kernel_rfl) (by kernel_rfl) ?_
      generalize (w.alloc (.cells #[.int .i64 m, .int .i64 c, .int .i64 t, .int .i64 n] 32)).drew = V at *
      simp only [List.take_succ_cons, List.take_zero, List.drop_succ_cons, List.drop_zero]
      repeat (first | go_big_quiet_skip | (go_big_quiet_want; go_big_quiet_op; first | go_big_quiet_on | (apply Exists.intro; (first | with_reducible refine ⟨CM.out V, ?_⟩ | with_reducible refine ⟨CC.out V, ?_⟩); go_big_quiet_on)))
      refine wpQuiet_nil ?_
      go_wp2
      go_ret
      exact ⟨ret_bool E.out.symm, HW.out⟩
    | true =>
      rw [h1] at CC
      obtain ⟨p1, q1⟩ := inB_iff.1 h1
      cases h2 : inB t (2 * m) 1073741824 with
      | false =>
        rw [h2] at CT
        have E : Hid (cgB m c t n = false) := hide (by
            unfold cgB; rw [h2]; simp)
        go_enter Try.func39, Try.ntmps39
        go_wp2_with fail
        refine region_tail 30 (by kernel_rfl) (by kernel_rfl) ?_
        generalize (w.alloc (.cells #[.int .i64 m, .int .i64 c, .int .i64 t, .int .i64 n] 32)).drew = V at *
        have CL := hide (least_walk m V (by omega) q0)
        simp only [List.take_succ_cons, List.take_zero, List.drop_succ_cons, List.drop_zero]
        repeat (first | go_big_quiet_skip | (go_big_quiet_want; go_big_quiet_op; first | go_big_quiet_on | (apply Exists.intro; (first | with_reducible refine ⟨CM.out V, ?_⟩ | with_reducible refine ⟨CC.out V, ?_⟩ | with_reducible refine ⟨CL.out, ?_⟩ | with_reducible refine ⟨CT.out V, ?_⟩); go_big_quiet_on)))
        refine wpQuiet_nil ?_
        go_wp2
        go_ret
        exact ⟨ret_bool E.out.symm, HW.out⟩
      | true =>
        rw [h2] at CT
        obtain ⟨p2, q2⟩ := inB_iff.1 h2
        by_cases hn0 : 0 ≤ n
        · skip
          have E : Hid (cgB m c t n = decide (n < c)) := hide (by
              by_cases hn1 : n < c
              · rw [decide_eq_true hn1]; exact cgB_iff.2 (by omega)
              · rw [decide_eq_false hn1, ← Bool.not_eq_true, cgB_iff]; omega)
          go_enter Try.func39, Try.ntmps39
          go_wp2_with fail
          refine region_tail 30 (by kernel_rfl) (by kernel_rfl) ?_
          generalize (w.alloc (.cells #[.int .i64 m, .int .i64 c, .int .i64 t, .int .i64 n] 32)).drew = V at *
          have CL := hide (least_walk m V (by omega) q0)
          simp only [List.take_succ_cons, List.take_zero, List.drop_succ_cons, List.drop_zero]
          repeat (first | go_big_quiet_skip | (go_big_quiet_want; go_big_quiet_op; first | go_big_quiet_on | (apply Exists.intro; (first | with_reducible refine ⟨CM.out V, ?_⟩ | with_reducible refine ⟨CC.out V, ?_⟩ | with_reducible refine ⟨CL.out, ?_⟩ | with_reducible refine ⟨CT.out V, ?_⟩); go_big_quiet_on)))
          refine wpQuiet_nil ?_
          go_wp2
          go_ret
          exact ⟨ret_bool E.out.symm, HW.out⟩
        · have gd : decide (0 ≤ n) = false := decide_eq_false hn0
          have E : Hid (cgB m c t n = false) := hide (by
              rw [← Bool.not_eq_true, cgB_iff]; omega)
          go_enter Try.func39, Try.ntmps39
          go_wp2_with fail
          refine region_tail 30 (by kernel_rfl) (by kernel_rfl) ?_
          generalize (w.alloc (.cells #[.int .i64 m, .int .i64 c, .int .i64 t, .int .i64 n] 32)).drew = V at *
          have CL := hide (least_walk m V (by omega) q0)
          simp only [List.take_succ_cons, List.take_zero, List.drop_succ_cons, List.drop_zero]
          repeat (first | go_big_quiet_skip | (go_big_quiet_want; go_big_quiet_op; first | go_big_quiet_on | (apply Exists.intro; (first | with_reducible refine ⟨CM.out V, ?_⟩ | with_reducible refine ⟨CC.out V, ?_⟩ | with_reducible refine ⟨CL.out, ?_⟩ | with_reducible refine ⟨CT.out V, ?_⟩); go_big_quiet_on)))
          refine wpQuiet_nil ?_
          go_wp2
          go_ret
          exact ⟨ret_bool E.out.symm, HW.out⟩

/-- A struct of numbers by value: each of its cells reads at its field's type. -/
theorem agg_cells {H : Type} {enc : TypeId × Value → H} {P : Program} {w : World} {base b0 : Nat} {spare : Nat → Bool} {held : Bool} {r : Reach} {t : TypeId} {fs : Array Field} {v : Value} {d : DataW H} {p : List MemPlace} (hs : P.underlying t = some (.struct fs)) (hone : Go.Deep.oneCellFields P fs = true)
    (hv : Value.okWide P w r b0 t v) (h : DataW.Trod enc P w base spare held t v d p) :
    ∃ cs : Array Value, v = .agg cs ∧ cs.size = P.cellsOf t ∧ ∀ (i : Nat) (f : Field) (c : Value), fs[i]? = some f → cs[i]? = some c → ∃ n y, DataW.trod enc P w base spare held n f.type [c] = some y := by
  obtain ⟨cs, rfl, hsz⟩ := okWide_struct hs hv
  obtain ⟨fuel, hf⟩ := h
  obtain ⟨xs, n, _, _, hl, hlen, hr⟩ := DataW.trod_struct hs hf
  refine ⟨cs, rfl, hsz, fun i f c hi hc => ?_⟩
  obtain ⟨ho, hk⟩ := Go.Deep.hone_of hone i f hi
  have hlt : i < xs.length := by
    rw [hlen]; exact (Array.getElem?_eq_some_iff.1 hi).1
  have h1 := hr i f hi
  have e : (((Value.agg cs).cells.toList.drop f.offset).take (P.cellsOf f.type)) = [c] := by
    rw [ho, hk]
    have hc' : cs.toList[i]? = some c := by simpa using hc
    obtain ⟨hlt', e'⟩ := List.getElem?_eq_some_iff.1 hc'
    simp only [Value.cells]
    rw [List.drop_eq_getElem_cons hlt', e']
    rfl
  rw [e] at h1
  exact ⟨n, _, h1.trans (List.getElem?_eq_getElem hlt)⟩

set_option maxHeartbeats 2000000 in
theorem toCong_walk (x0 : Int) (x1 : Int) (x2 : Int) (x3 : Int) (w : World) : Calls Try.prog 14 #[.agg #[.int .i64 x0, .int .i64 x1, .int .i64 x2, .int .i64 x3]] w fun e w' => e = .returned (.agg #[.int .i64 x0, .int .i64 x1, .int .i64 x2, .int .i64 x3]) ∧ Below w.heap.size w w' := by
  go_enter Try.func14, Try.ntmps14
  go_wp2_with fail
  exact bodyPost_ret (v := .agg #[.int .i64 x0, .int .i64 x1, .int .i64 x2, .int .i64 x3]) (by simp [results, Try.results14, go_sem]) rfl ⟨rfl, (((Below.refl _ _).alloc (Nat.le_refl _) _).alloc (by simp) _).alloc (by simp; omega) _⟩
set_option maxHeartbeats 2000000 in
theorem eqCong_walk (x0 : Int) (x1 : Int) (x2 : Int) (x3 : Int) (w : World) : Calls Try.prog 16 #[.agg #[.int .i64 x0, .int .i64 x1, .int .i64 x2, .int .i64 x3], .agg #[.int .i64 x0, .int .i64 x1, .int .i64 x2, .int .i64 x3]] w fun e w' => e = .returned (.bool true) ∧ Below w.heap.size w w' := by
  go_enter Try.func16, Try.ntmps16
  go_wp2
  go_ret
  exact ⟨rfl, ((Below.refl w.heap.size w).alloc (Nat.le_refl _) _).alloc (by simp) _⟩
theorem cellsCong {α : Type} {cs : Array α} (h : cs.size = 4) : ∃ k0 k1 k2 k3, cs = #[k0, k1, k2, k3] := by
  obtain ⟨l⟩ := cs
  match l, h with
  | [k0, k1, k2, k3], _ => exact ⟨k0, k1, k2, k3, rfl⟩
theorem openCong {H : Type} {enc : TypeId × Value → H} {w : World} {base b0 : Nat} {held : Bool} {r : Reach} {v : Value} {d : DataW H} {p : List MemPlace} (hv : Value.okWide Try.prog w r b0 31 v) (h : DataW.Trod enc Try.prog w base (fun _ => true) held 31 v d p) :
    ∃ (x0 : Int) (x1 : Int) (x2 : Int) (x3 : Int), v = .agg #[.int .i64 x0, .int .i64 x1, .int .i64 x2, .int .i64 x3] := by
  obtain ⟨cs, rfl, hsz, hr⟩ := agg_cells Try.underlying31 (by kernel_rfl) hv h
  have hC : Try.prog.cellsOf 31 = 4 := by kernel_rfl
  obtain ⟨k0, k1, k2, k3, rfl⟩ := cellsCong (hsz.trans hC)
  obtain ⟨m0, y0, r0⟩ := hr 0 _ k0 rfl rfl
  obtain ⟨x0, e0, _, _⟩ := DataW.trod_int Try.underlying2 r0
  simp at e0
  subst e0
  obtain ⟨m1, y1, r1⟩ := hr 1 _ k1 rfl rfl
  obtain ⟨x1, e1, _, _⟩ := DataW.trod_int Try.underlying2 r1
  simp at e1
  subst e1
  obtain ⟨m2, y2, r2⟩ := hr 2 _ k2 rfl rfl
  obtain ⟨x2, e2, _, _⟩ := DataW.trod_int Try.underlying2 r2
  simp at e2
  subst e2
  obtain ⟨m3, y3, r3⟩ := hr 3 _ k3 rfl rfl
  obtain ⟨x3, e3, _, _⟩ := DataW.trod_int Try.underlying2 r3
  simp at e3
  subst e3
  exact ⟨x0, x1, x2, x3, rfl⟩
/-- What is wanted of a function that answers a Cong and a code. -/
def ExCCong (f : Nat) (ar : Array Value) (r0 : Int) (r1 : Int) (r2 : Int) (r3 : Int) (code : Int) : Prop := ∀ (w : World), Calls Try.prog f ar w fun e w' => e = .returned (.tuple #[.agg #[.int .i64 r0, .int .i64 r1, .int .i64 r2, .int .i64 r3], .int .i64 code]) ∧ Below w.heap.size w w'
end Go.Proofs.Ytnnijikfppijfab
