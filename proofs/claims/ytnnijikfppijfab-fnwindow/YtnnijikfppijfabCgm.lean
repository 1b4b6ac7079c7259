/-
Contracts of functions of this seat.
-/
import Derived.Test.YtnnijikfppijfabRows
import Derived.WalkKit
import Derived.ProofKit
import Derived.OpenShut
import Derived.Test.YtnnijikfppijfabCgi
import Derived.Deep.RegionHeld3
namespace Go.Proofs.Ytnnijikfppijfab
open Go.ChangeShapes Go.WideShapes Go.ChangeAt Go.RowKit
set_option linter.unusedVariables false
set_option maxRecDepth 100000
/-- Whether a region that draws its order may be walked in this one: what only looks (true) comes as early as it may; all else comes when nothing else may. -/
def lexOrd (ops : Array Oper) : List (Nat × Bool) → Array Bool → Bool
  | [], listed => (Region.ready .any ops listed).isEmpty
  | (i, true) :: r, listed => Region.free .any ops listed i && (Region.ready .any ops listed).contains i && lexOrd ops r (listed.setIfInBounds i true)
  | (i, false) :: r, listed => (Region.ready .any ops listed == [i]) && lexOrd ops r (listed.setIfInBounds i true)
/-- The walk in that order: what looks yields its value in every world of S; what acts ends in a world of S. -/
def wpLex (P : Program) (ops : Array Oper) (Q : Exit → Act → World → Prop) (S : World → Prop) : List (Nat × Bool) → Act → World → Prop
  | [], a, w => Q .normal a w
  | (i, true) :: r, a, w => ∃ o v, ops[i]? = some o ∧ YieldsIf P ops S o v a ∧ (∀ c a w, Q (.panic c) (a.put o.dst v) w → Q (.panic c) a w) ∧ wpLex P ops Q S r (a.put o.dst v) w
  | (i, false) :: r, a, w => wpOp P ops Q i (fun a' w' => S w' ∧ wpLex P ops Q S r a' w') a w
theorem wpOp_imp {P : Program} {ops : Array Oper} {Q : Exit → Act → World → Prop} {i : Nat} {K K' : Act → World → Prop} {a : Act} {w : World} (h : wpOp P ops Q i K a w) (hk : ∀ a w, K a w → K' a w) : wpOp P ops Q i K' a w := wpOp_mono hk h
theorem lex_any {P : Program} {ops : Array Oper} {Q : Exit → Act → World → Prop} {S : World → Prop} (hs : Region.noSelect ops = true) :
    ∀ (l : List (Nat × Bool)) (listed : Array Bool) (a : Act) (w : World), lexOrd ops l listed = true → S w → wpLex P ops Q S l a w → wpAnyH P .any ops Q S l.length listed a w
  | [], listed, a, w, ho, _, h => wpAnyH_done (by simpa [lexOrd] using ho) h _
  | (i, true) :: r, listed, a, w, ho, hS, h => by
    obtain ⟨o, v, hi, hy, hq, hr⟩ := h
    simp only [lexOrd, Bool.and_eq_true] at ho
    exact wpAnyH_take hi hs ho.1.1 ho.1.2 hq hy hS (lex_any hs r _ _ _ ho.2 hS hr)
  | (i, false) :: r, listed, a, w, ho, hS, h => by
    simp only [lexOrd, Bool.and_eq_true, beq_iff_eq] at ho
    refine wpAnyH_all ho.1 (by simp) ?_
    intro j hj
    have e : j = i := by simpa using hj
    subst e
    exact wpOp_imp h (fun a w hh => ⟨hh.1, lex_any hs r _ _ _ ho.2 hh.1 hh.2⟩)
/-- A region that draws its order, walked in one order. -/
theorem wp_region_lex {P : Program} {ops : Array Oper} {Q : Exit → Act → World → Prop} {id : Nat} {a : Act} {w : World} (S : World → Prop) (l : List (Nat × Bool)) (hm : P.follows .mixedOrders = true) (hs : Region.noSelect ops = true) (ho : lexOrd ops l (Array.replicate ops.size false) = true) (hl : l.length = ops.size) (hS : S w.drew) (h : wpLex P ops Q S l a w.drew) : (Code.region id ops true).wp P Q a w :=
  wp_region_held_drew hm hS (fun _ => by have k := lex_any hs l _ _ _ ho hS h; rw [hl] at k; exact k)
theorem lex_get {ops : Array Oper} {i : Nat} {o : Oper} {t : List Oper} (h : ops.toList.drop i = o :: t) : ops[i]? = some o := by
  have := congrArg List.head? h
  rw [List.head?_drop, List.head?_cons] at this
  rw [← this, Array.getElem?_toList]
section
variable {P : Program} {ops : Array Oper} {Q : Exit → Act → World → Prop} {S : World → Prop} {i : Nat} {o : Oper} {t : List Oper} {r : List (Nat × Bool)} {a : Act} {w : World}
/-- Its guard says no. -/
theorem wpLex_skip (ho : ops.toList.drop i = o :: t) (hw : Region.wanted o (yielded ops a.tmps) = false) (hq : ∀ c a w, Q (.panic c) (a.put o.dst undef) w → Q (.panic c) a w) (h : wpLex P ops Q S r (a.put o.dst undef) w) : wpLex P ops Q S ((i, true) :: r) a w :=
  ⟨o, undef, lex_get ho, .inr ⟨hw, rfl⟩, hq, h⟩
/-- It yields its value in every world of S. -/
theorem wpLex_take (v : Value) (ho : ops.toList.drop i = o :: t) (hw : Region.wanted o (yielded ops a.tmps) = true) (hq : ∀ c a w, Q (.panic c) (a.put o.dst v) w → Q (.panic c) a w) (hy : ∀ w, S w → (execOp a.eval o).run P w = .ok (.value v) w) (h : wpLex P ops Q S r (a.put o.dst v) w) : wpLex P ops Q S ((i, true) :: r) a w :=
  ⟨o, v, lex_get ho, .inl ⟨hw, hy⟩, hq, h⟩
theorem wpLex_pass (ho : ops.toList.drop i = o :: t) (hw : Region.wanted o (yielded ops a.tmps) = false) (hS : S w) (h : wpLex P ops Q S r (a.put o.dst undef) w) : wpLex P ops Q S ((i, false) :: r) a w :=
  wpOp_step (lex_get ho) (fun K' hK => by rw [if_neg (by rw [hw]; decide)]; exact hK _ _ ⟨hS, h⟩)
/-- It acts. -/
theorem wpLex_act (ho : ops.toList.drop i = o :: t) (hw : Region.wanted o (yielded ops a.tmps) = true) (h : ∀ K : Act → World → Prop, Shut (∀ a w, S w → wpLex P ops Q S r a w → K a w) → Oper.wp P o a w K Q) : wpLex P ops Q S ((i, false) :: r) a w :=
  wpOp_step (lex_get ho) (fun K' hK => by rw [if_pos hw]; exact h K' (fun a w hS hh => hK a w ⟨hS, hh⟩))
end
theorem wpLex_nil {P : Program} {ops : Array Oper} {Q : Exit → Act → World → Prop} {S : World → Prop} {a : Act} {w : World} (h : Q .normal a w) : wpLex P ops Q S [] a w := h

theorem mssB_eq (m c t n a : Int) : (cgB m c t n && inB a 1 m) = (cgB m c t n && (inB a 1 65535 && decide (a ≤ m))) := by
  cases h : cgB m c t n with
  | false => rfl
  | true =>
    obtain ⟨⟨m0, m1⟩, _⟩ := cgB_iff.1 h
    by_cases h1 : 1 ≤ a ∧ a ≤ m
    · rw [inB_iff.2 h1, inB_iff.2 ⟨h1.1, by omega⟩, decide_eq_true h1.2]; rfl
    · rw [inB_noc h1]
      by_cases h2 : a ≤ m
      · rw [inB_noc (by omega)]; rfl
      · rw [decide_eq_false h2]; simp
theorem implNew_bad (a : Int) (h : inB a 1 65535 = false) : ExCCong 25 #[.int .i64 a] 0 0 0 0 1 := by
  intro w
  have CI := hide (fun W => isMss_walk a W)
  rw [h] at CI
  clear h
  have HB := hide (BoxV.start w #[.int .i64 0, .int .i64 0, .int .i64 0, .int .i64 0] 32)
  go_enter Try.func25, Try.ntmps25
  go_wp2_with fail
  generalize w.alloc (.cells #[.int .i64 0, .int .i64 0, .int .i64 0, .int .i64 0] 32) = W at *
  refine (CI.out _).mono ?_
  rintro e w2 ⟨rfl, rfl⟩
  have r0 := HB.out.cell 0 _ rfl; have r1 := HB.out.cell 1 _ rfl; have r2 := HB.out.cell 2 _ rfl; have r3 := HB.out.cell 3 _ rfl
  have rf : ∀ o, w2.frozen? ⟨w.heap.size, o, none⟩ = false := fun o => frozen_of_row _ _ o _ _ HB.out.2.2
  go_wp2_with fail
  refine BoxV.four (P := fun X => bodyPost Try.prog Try.f25 _ _ _ X) HB.out ?_
  intro W9 h9
  have r0 := h9.cell 0 _ rfl; have r1 := h9.cell 1 _ rfl; have r2 := h9.cell 2 _ rfl; have r3 := h9.cell 3 _ rfl
  exact bodyPost_ret (v := .tuple #[.agg #[.int .i64 0, .int .i64 0, .int .i64 0, .int .i64 0], .int .i64 1]) (by simp [results, Try.results25, go_sem, r0, r1, r2, r3]) rfl ⟨rfl, h9.1⟩
theorem implNew_ok (a : Int) (h : inB a 1 65535 = true) : ExCCong 25 #[.int .i64 a] a (fiB a) 1073741824 0 0 := by
  intro w
  have CI := hide (fun W => isMss_walk a W)
  rw [h] at CI
  obtain ⟨a0, a1⟩ := inB_iff.1 h
  have CF := hide (fun W => first_walk a W a0 a1)
  clear h
  have HB := hide (BoxV.start w #[.int .i64 0, .int .i64 0, .int .i64 0, .int .i64 0] 32)
  go_enter Try.func25, Try.ntmps25
  go_wp2_with fail
  generalize w.alloc (.cells #[.int .i64 0, .int .i64 0, .int .i64 0, .int .i64 0] 32) = W at *
  refine (CI.out _).mono ?_
  rintro e w2 ⟨rfl, rfl⟩
  have r0 := HB.out.cell 0 _ rfl; have r1 := HB.out.cell 1 _ rfl; have r2 := HB.out.cell 2 _ rfl; have r3 := HB.out.cell 3 _ rfl
  have rf : ∀ o, w2.frozen? ⟨w.heap.size, o, none⟩ = false := fun o => frozen_of_row _ _ o _ _ HB.out.2.2
  go_wp2_with (go_at_call 37; refine (CF.out _).mono ?_; rintro e w3 ⟨rfl, rfl⟩)
  refine BoxV.four (P := fun X => bodyPost Try.prog Try.f25 _ _ _ X) HB.out ?_
  intro W9 h9
  have r0 := h9.cell 0 _ rfl; have r1 := h9.cell 1 _ rfl; have r2 := h9.cell 2 _ rfl; have r3 := h9.cell 3 _ rfl
  exact bodyPost_ret (v := .tuple #[.agg #[.int .i64 a, .int .i64 (fiB a), .int .i64 1073741824, .int .i64 0], .int .i64 0]) (by simp [results, Try.results25, go_sem, r0, r1, r2, r3]) rfl ⟨rfl, h9.1⟩
end Go.Proofs.Ytnnijikfppijfab
