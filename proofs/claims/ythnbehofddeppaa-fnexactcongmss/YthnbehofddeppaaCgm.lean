/-
Contracts of functions of this seat.
-/
import Derived.Test.YthnbehofddeppaaRows
import Derived.WalkKit
import Derived.ProofKit
import Derived.OpenShut
import Derived.Test.YthnbehofddeppaaCgi
import Derived.Deep.RegionHeld3
namespace Go.Proofs.Ythnbehofddeppaa
open Go.ChangeShapes Go.WideShapes Go.ChangeAt Go.RowKit
set_option linter.unusedVariables false
set_option maxRecDepth 100000
/-- Whether a region that draws its order may be walked in this one: what only looks (true) comes as early as it may; all else comes when nothing else may. -/
def lexOrd (ops : Array Oper) : List (Nat × Bool) → Array Bool → Bool
  | [], listed => (Region.ready .any ops listed).isEmpty
  | (i, true) :: r, listed => Region.free .any ops listed i && (Region.ready .any ops listed).contains i && lexOrd ops r (listed.setIfInBounds i true)
  | (i, false) :: r, listed => (Region.ready .any ops listed == [i]) && lexOrd ops r (listed.setIfInBounds i true)
/-- The walk in that order: what looks yields its value in every world of S; what acts ends in a world of S. -/
def wpLex (P : Program) (ops : Array Oper) (Q : Exit → Act → World → Prop) (S : World → Prop) : List (Nat × Bool) → Act → World → Prop
  | [], a, w => Q .normal a w
  | (i, true) :: r, a, w => ∃ o v, ops[i]? = some o ∧ YieldsIf P ops S o v a ∧ (∀ c a w, Q (.panic c) (a.put o.dst v) w → Q (.panic c) a w) ∧ wpLex P ops Q S r (a.put o.dst v) w
  | (i, false) :: r, a, w => wpOp P ops Q i (fun a' w' => S w' ∧ wpLex P ops Q S r a' w') a w
theorem wpOp_imp {P : Program} {ops : Array Oper} {Q : Exit → Act → World → Prop} {i : Nat} {K K' : Act → World → Prop} {a : Act} {w : World} (h : wpOp P ops Q i K a w) (hk : ∀ a w, K a w → K' a w) : wpOp P ops Q i K' a w := wpOp_mono hk h
theorem lex_any {P : Program} {ops : Array Oper} {Q : Exit → Act → World → Prop} {S : World → Prop} (hs : Region.noSelect ops = true) :
    ∀ (l : List (Nat × Bool)) (listed : Array Bool) (a : Act) (w : World), lexOrd ops l listed = true → S w → wpLex P ops Q S l a w → wpAnyH P .any ops Q S l.length listed a w
  | [], listed, a, w, ho, _, h => wpAnyH_done (by simpa [lexOrd] using ho) h _
  | (i, true) :: r, listed, a, w, ho, hS, h => by
    obtain ⟨o, v, hi, hy, hq, hr⟩ := h
    simp only [lexOrd, Bool.and_eq_true] at ho
    exact wpAnyH_take hi hs ho.1.1 ho.1.2 hq hy hS (lex_any hs r _ _ _ ho.2 hS hr)
  | (i, false) :: r, listed, a, w, ho, hS, h => by
    simp only [lexOrd, Bool.and_eq_true, beq_iff_eq] at ho
    refine wpAnyH_all ho.1 (by simp) ?_
    intro j hj
    have e : j = i := by simpa using hj
    subst e
    exact wpOp_imp h (fun a w hh => ⟨hh.1, lex_any hs r _ _ _ ho.2 hh.1 hh.2⟩)
/-- A region that draws its order, walked in one order. -/
theorem wp_region_lex {P : Program} {ops : Array Oper} {Q : Exit → Act → World → Prop} {id : Nat} {a : Act} {w : World} (S : World → Prop) (l : List (Nat × Bool)) (hm : P.follows .mixedOrders = true) (hs : Region.noSelect ops = true) (ho : lexOrd ops l (Array.replicate ops.size false) = true) (hl : l.length = ops.size) (hS : S w.drew) (h : wpLex P ops Q S l a w.drew) : (Code.region id ops true).wp P Q a w :=
  wp_region_held_drew hm hS (fun _ => by have k := lex_any hs l _ _ _ ho hS h; rw [hl] at k; exact k)
theorem lex_get {ops : Array Oper} {i : Nat} {o : Oper} {t : List Oper} (h : ops.toList.drop i = o :: t) : ops[i]? = some o := by
  have := congrArg List.head? h
  rw [List.head?_drop, List.head?_cons] at this
  rw [← this, Array.getElem?_toList]
section
variable {P : Program} {ops : Array Oper} {Q : Exit → Act → World → Prop} {S : World → Prop} {i : Nat} {o : Oper} {t : List Oper} {r : List (Nat × Bool)} {a : Act} {w : World}
/-- Its guard says no. -/
theorem wpLex_skip (ho : ops.toList.drop i = o :: t) (hw : Region.wanted o (yielded ops a.tmps) = false) (hq : ∀ c a w, Q (.panic c) (a.put o.dst undef) w → Q (.panic c) a w) (h : wpLex P ops Q S r (a.put o.dst undef) w) : wpLex P ops Q S ((i, true) :: r) a w :=
  ⟨o, undef, lex_get ho, .inr ⟨hw, rfl⟩, hq, h⟩
/-- It yields its value in every world of S. -/
theorem wpLex_take (v : Value) (ho : ops.toList.drop i = o :: t) (hw : Region.wanted o (yielded ops a.tmps) = true) (hq : ∀ c a w, Q (.panic c) (a.put o.dst v) w → Q (.panic c) a w) (hy : ∀ w, S w → (execOp a.eval o).run P w = .ok (.value v) w) (h : wpLex P ops Q S r (a.put o.dst v) w) : wpLex P ops Q S ((i, true) :: r) a w :=
  ⟨o, v, lex_get ho, .inl ⟨hw, hy⟩, hq, h⟩
theorem wpLex_pass (ho : ops.toList.drop i = o :: t) (hw : Region.wanted o (yielded ops a.tmps) = false) (hS : S w) (h : wpLex P ops Q S r (a.put o.dst undef) w) : wpLex P ops Q S ((i, false) :: r) a w :=
  wpOp_step (lex_get ho) (fun K' hK => by rw [if_neg (by rw [hw]; decide)]; exact hK _ _ ⟨hS, h⟩)
/-- It acts. -/
theorem wpLex_act (ho : ops.toList.drop i = o :: t) (hw : Region.wanted o (yielded ops a.tmps) = true) (h : ∀ K : Act → World → Prop, Shut (∀ a w, S w → wpLex P ops Q S r a w → K a w) → Oper.wp P o a w K Q) : wpLex P ops Q S ((i, false) :: r) a w :=
  wpOp_step (lex_get ho) (fun K' hK => by rw [if_pos hw]; exact h K' (fun a w hS hh => hK a w ⟨hS, hh⟩))
end
theorem wpLex_nil {P : Program} {ops : Array Oper} {Q : Exit → Act → World → Prop} {S : World → Prop} {a : Act} {w : World} (h : Q .normal a w) : wpLex P ops Q S [] a w := h

theorem mssB_eq (m c t n a : Int) : (cgB m c t n && inB a 1 m) = (cgB m c t n && (inB a 1 65535 && decide (a ≤ m))) := by
  cases h : cgB m c t n with
  | false => rfl
  | true =>
    obtain ⟨⟨m0, m1⟩, _⟩ := cgB_iff.1 h
    by_cases h1 : 1 ≤ a ∧ a ≤ m
    · rw [inB_iff.2 h1, inB_iff.2 ⟨h1.1, by omega⟩, decide_eq_true h1.2]; rfl
    · rw [inB_noc h1]
      by_cases h2 : a ≤ m
      · rw [inB_noc (by omega)]; rfl
      · rw [decide_eq_false h2]; simp
set_option maxHeartbeats 8000000 in
theorem face_CongMss (m c t n a y0 y1 y2 y3 code : Int) (hA : ExCCong 10 #[.agg #[.int .i64 m, .int .i64 c, .int .i64 t, .int .i64 n], .int .i64 4, .int .i64 a, .bool (inB a 1 65535 && decide (a ≤ m))] y0 y1 y2 y3 code) : ExCCong 6 #[.agg #[.int .i64 m, .int .i64 c, .int .i64 t, .int .i64 n], .int .i64 a] y0 y1 y2 y3 code := by
  intro w
  have CA := hide (fun W => hA W)
  clear hA
  have CI := hide (fun W => isMss_walk a W)
  have HB0 := hide (Bx.start w #[.int .i64 m, .int .i64 c, .int .i64 t, .int .i64 n] #[.int .i64 0, .int .i64 0, .int .i64 0, .int .i64 0] 24)
  cases hi : inB a 1 65535 with
  | false =>
    rw [hi] at CI CA
    simp only [Bool.false_and] at CA
    clear hi
    go_enter Try.func6, Try.ntmps6
    go_upto_region 1 with fail
    generalize (w.alloc (.cells #[.int .i64 m, .int .i64 c, .int .i64 t, .int .i64 n] 24)).alloc (.cells #[.int .i64 0, .int .i64 0, .int .i64 0, .int .i64 0] 24) = W at *
    have HB := hide HB0.out.drew
    clear HB0
    have hK : ∃ rs, Bx w W.drew #[.int .i64 m, .int .i64 c, .int .i64 t, .int .i64 n] rs 24 := ⟨_, HB.out⟩
    refine wp_region_lex (fun X => ∃ rs, Bx w X #[.int .i64 m, .int .i64 c, .int .i64 t, .int .i64 n] rs 24) ((0, true) :: (1, true) :: (2, true) :: (3, false) :: (4, true) :: (5, true) :: (6, true) :: (7, true) :: (8, true) :: (9, true) :: (10, false) :: (11, true) :: (12, true) :: (13, false) :: (14, true) :: []) (by kernel_rfl) (by kernel_rfl) (by kernel_rfl) rfl hK ?_
    repeat (first
      | (refine wpLex_skip rfl (by rfl) (fun _ _ _ h => h) ?_; simp only [Act.put, List.setIfInBounds_toArray, List.set_cons_zero, List.set_cons_succ])
      | (refine wpLex_take ?_ rfl (by rfl) (fun _ _ _ h => h) ?_ ?_; rotate_left; (intro wq hSw; obtain ⟨rsq, hq⟩ := hSw; have k0 := hq.2.1.cell 0 _ rfl; have k1 := hq.2.1.cell 1 _ rfl; have k2 := hq.2.1.cell 2 _ rfl; have k3 := hq.2.1.cell 3 _ rfl; first | (go_simp; done) | (go_simp; with_reducible rfl)); simp only [Act.put, List.setIfInBounds_toArray, List.set_cons_zero, List.set_cons_succ])
      | (refine wpLex_act rfl (by rfl) ?_; intro KK hKK; go_simp; (first
        | (go_at_call 11; refine (CI.out _).mono ?_; rintro e w2 ⟨rfl, rfl⟩; try go_wp2_with fail; refine hKK.out _ _ hK ?_)
        | (go_at_call 10; refine (CA.out _).mono ?_; rintro e w2 ⟨rfl, hb2⟩; have HB2 := hide (HB.out.next hb2); have rr0 := HB2.out.2.2.cell 0 _ rfl; have rr1 := HB2.out.2.2.cell 1 _ rfl; have rr2 := HB2.out.2.2.cell 2 _ rfl; have rr3 := HB2.out.2.2.cell 3 _ rfl; have rf := HB2.out.2.2.frozen; have hK : ∃ rs, Bx w w2 #[.int .i64 m, .int .i64 c, .int .i64 t, .int .i64 n] rs 24 := ⟨_, HB2.out⟩; try go_wp2_with fail; refine hKK.out _ _ hK ?_)
        | (try go_wp2_with fail; refine hKK.out _ _ ⟨_, (((HB2.out.rput 0 (.int .i64 y0)).rput 1 (.int .i64 y1)).rput 2 (.int .i64 y2)).rput 3 (.int .i64 y3)⟩ ?_)); clear hKK KK; try simp only [Act.put, List.setIfInBounds_toArray, List.set_cons_zero, List.set_cons_succ]))
    refine wpLex_nil ?_
    go_wp2_with fail
    clear rr0 rr1 rr2 rr3 rf
    refine Bx.four (P := fun X => bodyPost Try.prog Try.f6 _ _ _ X) HB2.out ?_
    intro W9 h9
    have r0 := h9.2.2.cell 0 _ rfl; have r1 := h9.2.2.cell 1 _ rfl; have r2 := h9.2.2.cell 2 _ rfl; have r3 := h9.2.2.cell 3 _ rfl
    exact bodyPost_ret (v := .tuple #[.agg #[.int .i64 (y0), .int .i64 (y1), .int .i64 (y2), .int .i64 (y3)], .int .i64 code]) (by simp [results, Try.results6, go_sem, r0, r1, r2, r3]) rfl ⟨rfl, h9.1⟩
  | true =>
    rw [hi] at CI CA
    simp only [Bool.true_and] at CA
    clear hi
    go_enter Try.func6, Try.ntmps6
    go_upto_region 1 with fail
    generalize (w.alloc (.cells #[.int .i64 m, .int .i64 c, .int .i64 t, .int .i64 n] 24)).alloc (.cells #[.int .i64 0, .int .i64 0, .int .i64 0, .int .i64 0] 24) = W at *
    have HB := hide HB0.out.drew
    clear HB0
    have hK : ∃ rs, Bx w W.drew #[.int .i64 m, .int .i64 c, .int .i64 t, .int .i64 n] rs 24 := ⟨_, HB.out⟩
    refine wp_region_lex (fun X => ∃ rs, Bx w X #[.int .i64 m, .int .i64 c, .int .i64 t, .int .i64 n] rs 24) ((0, true) :: (1, true) :: (2, true) :: (3, false) :: (4, true) :: (5, true) :: (6, true) :: (7, true) :: (8, true) :: (9, true) :: (10, false) :: (11, true) :: (12, true) :: (13, false) :: (14, true) :: []) (by kernel_rfl) (by kernel_rfl) (by kernel_rfl) rfl hK ?_
    repeat (first
      | (refine wpLex_skip rfl (by rfl) (fun _ _ _ h => h) ?_; simp only [Act.put, List.setIfInBounds_toArray, List.set_cons_zero, List.set_cons_succ])
      | (refine wpLex_take ?_ rfl (by rfl) (fun _ _ _ h => h) ?_ ?_; rotate_left; (intro wq hSw; obtain ⟨rsq, hq⟩ := hSw; have k0 := hq.2.1.cell 0 _ rfl; have k1 := hq.2.1.cell 1 _ rfl; have k2 := hq.2.1.cell 2 _ rfl; have k3 := hq.2.1.cell 3 _ rfl; first | (go_simp; done) | (go_simp; with_reducible rfl)); simp only [Act.put, List.setIfInBounds_toArray, List.set_cons_zero, List.set_cons_succ])
      | (refine wpLex_act rfl (by rfl) ?_; intro KK hKK; go_simp; (first
        | (go_at_call 11; refine (CI.out _).mono ?_; rintro e w2 ⟨rfl, rfl⟩; try go_wp2_with fail; refine hKK.out _ _ hK ?_)
        | (go_at_call 10; refine (CA.out _).mono ?_; rintro e w2 ⟨rfl, hb2⟩; have HB2 := hide (HB.out.next hb2); have rr0 := HB2.out.2.2.cell 0 _ rfl; have rr1 := HB2.out.2.2.cell 1 _ rfl; have rr2 := HB2.out.2.2.cell 2 _ rfl; have rr3 := HB2.out.2.2.cell 3 _ rfl; have rf := HB2.out.2.2.frozen; have hK : ∃ rs, Bx w w2 #[.int .i64 m, .int .i64 c, .int .i64 t, .int .i64 n] rs 24 := ⟨_, HB2.out⟩; try go_wp2_with fail; refine hKK.out _ _ hK ?_)
        | (try go_wp2_with fail; refine hKK.out _ _ ⟨_, (((HB2.out.rput 0 (.int .i64 y0)).rput 1 (.int .i64 y1)).rput 2 (.int .i64 y2)).rput 3 (.int .i64 y3)⟩ ?_)); clear hKK KK; try simp only [Act.put, List.setIfInBounds_toArray, List.set_cons_zero, List.set_cons_succ]))
    refine wpLex_nil ?_
    go_wp2_with fail
    clear rr0 rr1 rr2 rr3 rf
    refine Bx.four (P := fun X => bodyPost Try.prog Try.f6 _ _ _ X) HB2.out ?_
    intro W9 h9
    have r0 := h9.2.2.cell 0 _ rfl; have r1 := h9.2.2.cell 1 _ rfl; have r2 := h9.2.2.cell 2 _ rfl; have r3 := h9.2.2.cell 3 _ rfl
    exact bodyPost_ret (v := .tuple #[.agg #[.int .i64 (y0), .int .i64 (y1), .int .i64 (y2), .int .i64 (y3)], .int .i64 code]) (by simp [results, Try.results6, go_sem, r0, r1, r2, r3]) rfl ⟨rfl, h9.1⟩
end Go.Proofs.Ythnbehofddeppaa
