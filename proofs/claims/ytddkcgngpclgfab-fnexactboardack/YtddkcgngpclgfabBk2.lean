/-
Contracts of functions of this seat.
-/
import Derived.Test.YtddkcgngpclgfabRows
import Derived.WalkKit
import Derived.ProofKit
import Derived.OpenShut
import Derived.Test.YtddkcgngpclgfabBk1
import Derived.Test.YtddkcgngpclgfabBs0
namespace Go.Proofs.Ytddkcgngpclgfab
open Go.ChangeShapes Go.WideShapes Go.ChangeAt Go.RowKit
set_option linter.unusedVariables false
set_option maxRecDepth 100000
/-- Blocks stay but for some. -/
def Fr (S : List Nat) (w w' : World) : Prop := w.heap.size ≤ w'.heap.size ∧ ∀ b, b < w.heap.size → b ∉ S → w'.heap[b]? = w.heap[b]?
theorem Fr.refl (S : List Nat) (w : World) : Fr S w w := ⟨Nat.le_refl _, fun _ _ _ => rfl⟩
theorem Fr.trans {S : List Nat} {w w' w2 : World} (h : Fr S w w') (k : Fr S w' w2) : Fr S w w2 := ⟨Nat.le_trans h.1 k.1, fun b hb hn => (k.2 b (Nat.lt_of_lt_of_le hb h.1) hn).trans (h.2 b hb hn)⟩
theorem Fr.below {S : List Nat} {w w' : World} (h : Below w.heap.size w w') : Fr S w w' := ⟨h.size, fun b hb _ => h.block b hb⟩
theorem Fr.grown {S : List Nat} {w w' : World} {c : Nat} (h : w.grownBy w' (some c)) (hc : c ∈ S) : Fr S w w' := ⟨h.size, fun b hb hn => h.block b hb (fun e => hn (by have e2 : c = b := (Option.some.inj e).symm; first | exact e2 ▸ hc | exact e2.symm ▸ hc))⟩
theorem Fr.set {S : List Nat} {w w' : World} {c : Nat} (h : Fr S w w') (hc : c ∈ S) (i : Nat) (y : Value) : Fr S w (w'.setCell ⟨c, i, none⟩ y) := ⟨by rw [World.size_setCell]; exact h.1, fun b hb hn => (heap_setCell_other _ ⟨c, i, none⟩ b y (fun e => hn (by rw [show b = c from e]; exact hc))).trans (h.2 b hb hn)⟩
theorem Fr.mono {S T : List Nat} {w w' : World} (h : Fr S w w') (hs : ∀ b ∈ S, b ∈ T) : Fr T w w' := ⟨h.1, fun b hb hn => h.2 b hb (fun hh => hn (hs b hh))⟩
set_option maxHeartbeats 2000000 in
theorem measures_walk (x0 x1 x2 x3 : Int) (x4 x5 : Bool) (w : World) : Calls Try.prog 43 #[.agg #[.int .i64 x0, .int .i64 x1, .int .i64 x2, .int .i64 x3, .bool x4, .bool x5]] w fun e w' => e = .returned (.bool (decide (x3 = 1) && !x4)) ∧ Below w.heap.size w w' := by
  have HB := hide (pc_box w x0 x1 x2 x3 x4 x5)
  have HW := hide ((Below.refl w.heap.size w).alloc (Nat.le_refl _) (.cells #[.int .i64 x0, .int .i64 x1, .int .i64 x2, .int .i64 x3, .bool x4, .bool x5] 30))
  have k3 := HB.out.cell 3 _ rfl; have k4 := HB.out.cell 4 _ rfl
  by_cases h3 : x3 = 1
  · rw [decide_eq_true h3]
    subst h3
    cases x4 <;>
    (go_enter Try.func43, Try.ntmps43
     go_wp2_with fail
     go_ret
     exact ⟨rfl, HW.out⟩)
  · rw [decide_eq_false h3]
    have h3b : (x3 == 1) = false := beq_eq_false_iff_ne.2 h3
    cases x4 <;>
    (go_enter Try.func43, Try.ntmps43
     go_wp2_with fail
     go_ret
     exact ⟨rfl, HW.out⟩)
set_option maxHeartbeats 2000000 in
theorem liesWithin_walk (x0 x1 x2 x3 : Int) (x4 x5 : Bool) (s0 s1 : Int) (w : World) : Calls Try.prog 48 #[.agg #[.int .i64 x0, .int .i64 x1, .int .i64 x2, .int .i64 x3, .bool x4, .bool x5], .agg #[.int .i64 s0, .int .i64 s1]] w fun e w' => e = .returned (.bool (decide (s0 ≤ x0 ∧ x1 ≤ s1))) ∧ Below w.heap.size w w' := by
  obtain ⟨hb2, hP, hS⟩ := two_boxes w #[.int .i64 x0, .int .i64 x1, .int .i64 x2, .int .i64 x3, .bool x4, .bool x5] #[.int .i64 s0, .int .i64 s1] 30 70
  have HB2 := hide hb2
  have k0 := hP.cell 0 _ rfl; have k1 := hP.cell 1 _ rfl
  have j0 := hS.cell 0 _ rfl; have j1 := hS.cell 1 _ rfl
  clear hb2 hP hS
  by_cases h1 : s0 ≤ x0
  · by_cases h2 : x1 ≤ s1
    · rw [decide_eq_true (show s0 ≤ x0 ∧ x1 ≤ s1 from ⟨h1, h2⟩)]
      go_enter Try.func48, Try.ntmps48
      go_wp2_with fail
      go_ret
      exact ⟨rfl, HB2.out⟩
    · rw [decide_eq_false (show ¬ (s0 ≤ x0 ∧ x1 ≤ s1) from fun h => h2 h.2)]
      go_enter Try.func48, Try.ntmps48
      go_wp2_with fail
      go_ret
      exact ⟨rfl, HB2.out⟩
  · rw [decide_eq_false (show ¬ (s0 ≤ x0 ∧ x1 ≤ s1) from fun h => h1 h.1)]
    go_enter Try.func48, Try.ntmps48
    go_wp2_with fail
    go_ret
    exact ⟨rfl, HB2.out⟩
set_option maxHeartbeats 4000000 in
theorem counts_walk (L : Nat) (u x : Int) (ns : List (Nat × PieceM)) (s0 s1 : Int) (w : World) (h : HoldV w L (plV u x ns) plT) : Calls Try.prog 47 #[.pointer (some ⟨L, 0, none⟩), .agg #[.int .i64 s0, .int .i64 s1]] w fun e w' => e = .returned (.bool (decide (u ≤ s0 ∧ s0 < s1 ∧ s1 ≤ x))) ∧ Below w.heap.size w w' := by
  have hal := (Below.refl w.heap.size w).alloc (Nat.le_refl _) (.cells #[.int .i64 s0, .int .i64 s1] 70)
  have HB := hide hal
  have hL := h.next hal
  have hS := hv_new w #[.int .i64 s0, .int .i64 s1] 70
  have l0 := hL.cell 0 _ rfl; have l1 := hL.cell 1 _ rfl
  have j0 := hS.cell 0 _ rfl; have j1 := hS.cell 1 _ rfl
  clear hal hL hS h
  by_cases h1 : u ≤ s0
  · by_cases h2 : s0 < s1
    · by_cases h3 : s1 ≤ x
      · rw [decide_eq_true (show u ≤ s0 ∧ s0 < s1 ∧ s1 ≤ x from ⟨h1, h2, h3⟩)]
        have d1 : decide (u ≤ s0) = true := decide_eq_true h1
        have d2 : decide (s0 < s1) = true := decide_eq_true h2
        have d3 : decide (s1 ≤ x) = true := decide_eq_true h3
        go_enter Try.func47, Try.ntmps47
        go_wp2_with fail
        go_quiet (fail)
        go_wp2_with fail
        go_ret
        exact ⟨rfl, below_drewN HB.out nq⟩
      · rw [decide_eq_false (show ¬ (u ≤ s0 ∧ s0 < s1 ∧ s1 ≤ x) from fun h => h3 h.2.2)]
        have d1 : decide (u ≤ s0) = true := decide_eq_true h1
        have d2 : decide (s0 < s1) = true := decide_eq_true h2
        have d3 : decide (s1 ≤ x) = false := decide_eq_false h3
        go_enter Try.func47, Try.ntmps47
        go_wp2_with fail
        go_quiet (fail)
        go_wp2_with fail
        go_ret
        exact ⟨rfl, below_drewN HB.out nq⟩
    · rw [decide_eq_false (show ¬ (u ≤ s0 ∧ s0 < s1 ∧ s1 ≤ x) from fun h => h2 h.2.1)]
      have d1 : decide (u ≤ s0) = true := decide_eq_true h1
      have d2 : decide (s0 < s1) = false := decide_eq_false h2
      go_enter Try.func47, Try.ntmps47
      go_wp2_with fail
      go_quiet (fail)
      go_wp2_with fail
      go_ret
      exact ⟨rfl, below_drewN HB.out nq⟩
  · rw [decide_eq_false (show ¬ (u ≤ s0 ∧ s0 < s1 ∧ s1 ≤ x) from fun h => h1 h.1)]
    have d1 : decide (u ≤ s0) = false := decide_eq_false h1
    go_enter Try.func47, Try.ntmps47
    go_wp2_with fail
    go_quiet (fail)
    go_wp2_with fail
    go_ret
    exact ⟨rfl, below_drewN HB.out nq⟩
/-- A list without its first piece. -/
theorem DL.tail {w w' : World} {B L p : Nat} {u x : Int} {o : PieceM} {ns : List (Nat × PieceM)} (h : DL w B L u x ((p, o) :: ns)) (hL : HoldV w' L (plV u x ns) plT) (hs : Seg w' none ns none) : DL w' B L u x ns := by
  have hnd := h.nd
  simp only [bks, List.map_cons, List.nodup_cons, List.mem_cons, not_or] at hnd
  refine ⟨hL, hs, List.nodup_cons.2 ⟨hnd.1.2, hnd.2.2⟩, fun b hb => h.lo b ?_⟩
  rcases List.mem_cons.1 hb with rfl | hb
  · exact List.mem_cons_self
  · exact List.mem_cons_of_mem _ (List.mem_cons_of_mem _ hb)
set_option maxHeartbeats 8000000 in
theorem drop_walk_n (B L p : Nat) (u x : Int) (o : PieceM) (w : World) (h : DL w B L u x [(p, o)]) :
    Calls Try.prog 44 #[.pointer (some ⟨L, 0, none⟩), .pointer (some ⟨p, 0, none⟩)] w fun e w' => e = .returned (.tuple #[]) ∧ DL w' B L u x [] ∧ Below B w w' ∧ Fr (L :: bks [(p, o)]) w w' := by
  have hd := h.drew
  have HLB := hide (h.lo L (by simp))
  have HD := hide hd
  have p6 := hd.seg.1.cell 6 _ rfl; have p7 := hd.seg.1.cell 7 _ rfl
  have H1 := hv_set hd.head 3 (.pointer none)
  have H2 := hv_set H1 4 (.pointer none)
  have H3 := hide (hv_set H2 2 (.int .i64 0))
  have l2 := H2.cell 2 _ rfl; have lf := H2.frozen
  have CL := hide (link_walk_nn L _ _ w.drew (hd.head.cell 3 _ rfl) (hd.head.frozen 3) (H1.cell 4 _ rfl) (H1.frozen 4))
  have HB := hide ((Below.refl B w).drew)
  have HFr := hide (Fr.below (S := L :: bks [(p, o)]) (Below.refl w.heap.size w).drew)
  clear H1 H2 h hd
  go_enter Try.func44, Try.ntmps44
  go_upto_region 0 with fail
  refine region_tail 9 (by kernel_rfl) (by kernel_rfl) ?_
  obtain ⟨V, hVe⟩ : ∃ V, V = w.drew := ⟨_, rfl⟩
  rw [← hVe] at CL HD HB HFr H3 p6 p7 l2 lf ⊢
  clear hVe
  simp only [List.take_succ_cons, List.take_zero, List.drop_succ_cons, List.drop_zero]
  repeat (first | go_big_quiet_skip | (go_big_quiet_want; go_big_quiet_op; go_big_quiet_on))
  refine wpQuiet_nil ?_
  clear p6 p7
  go_wp2_with (go_at_call 51; refine CL.out.mono ?_; rintro e w3 ⟨rfl, rfl⟩)
  go_end0
  exact ⟨rfl, HD.out.tail H3.out trivial, ((HB.out.setCell (p := ⟨L, 3, none⟩) HLB.out _).setCell (p := ⟨L, 4, none⟩) HLB.out _).setCell (p := ⟨L, 2, none⟩) HLB.out _, ((HFr.out.set (by simp) 3 _).set (by simp) 4 _).set (by simp) 2 _⟩
set_option maxHeartbeats 8000000 in
theorem drop_walk_s (B L p : Nat) (u x : Int) (o : PieceM) (q : Nat) (oq : PieceM) (r : List (Nat × PieceM)) (w : World) (h : DL w B L u x ((p, o) :: (q, oq) :: r)) (hl : r.length ≤ 1048576) :
    Calls Try.prog 44 #[.pointer (some ⟨L, 0, none⟩), .pointer (some ⟨p, 0, none⟩)] w fun e w' => e = .returned (.tuple #[]) ∧ DL w' B L u x ((q, oq) :: r) ∧ Below B w w' ∧ Fr (L :: bks ((p, o) :: (q, oq) :: r)) w w' := by
  have hd := h.drew
  have HLB := hide (h.lo L (by simp)); have HQB := hide (h.lo q (by simp))
  have HD := hide hd
  have hnd := hd.nd
  simp only [bks, List.map_cons, List.nodup_cons, List.mem_cons, not_or] at hnd
  obtain ⟨⟨_, nLq, nLr⟩, _, nqr, _⟩ := hnd
  have p6 := hd.seg.1.cell 6 _ rfl; have p7 := hd.seg.1.cell 7 _ rfl
  obtain ⟨_, hq0, hr0⟩ := hd.seg
  have H1 := hv_set hd.head 3 (.pointer (some ⟨q, 0, none⟩))
  have Q1 := hv_other hq0 (C := L) (fun e => nLq e.symm) 3 (.pointer (some ⟨q, 0, none⟩))
  have H2 := hv_other H1 (C := q) nLq 6 (.pointer none)
  have Q2 := hv_set Q1 6 (.pointer none)
  obtain ⟨cn, hcn⟩ : ∃ cn : Int, cn = (r.length : Int) := ⟨_, rfl⟩
  have hc0 : 0 ≤ cn := by omega
  have hc1 : cn ≤ 1048576 := by omega
  have H3 := hide (hv_set H2 2 (.int .i64 (cn + 1)))
  have Q3 := hide (hv_other Q2 (C := L) (fun e => nLq e.symm) 2 (.int .i64 (cn + 1)))
  have l2 : ((w.drew.setCell ⟨L, 3, none⟩ (.pointer (some ⟨q, 0, none⟩))).setCell ⟨q, 6, none⟩ (.pointer none)).cell? ⟨L, 2, none⟩ = some (.int .i64 (cn + 2)) := by
    refine (H2.cell 2 (.int .i64 ((((p, o) :: (q, oq) :: r).length : Nat) : Int)) rfl).trans ?_
    rw [hcn]
    exact congrArg (fun z => some (Value.int .i64 z)) (by simp only [List.length_cons]; omega)
  have lf := H2.frozen
  have CL := hide (link_walk_ns L q _ _ w.drew (hd.head.cell 3 _ rfl) (hd.head.frozen 3) (Q1.cell 6 _ rfl) (Q1.frozen 6))
  have HB := hide ((Below.refl B w).drew)
  have HFr := hide (Fr.below (S := L :: bks ((p, o) :: (q, oq) :: r)) (Below.refl w.heap.size w).drew)
  have HS : Hid (Seg (((w.drew.setCell ⟨L, 3, none⟩ (.pointer (some ⟨q, 0, none⟩))).setCell ⟨q, 6, none⟩ (.pointer none)).setCell ⟨L, 2, none⟩ (.int .i64 (cn + 1))) (some q) r none) := hide (hr0.frame (fun c hc => by
    have h1 : c ≠ L := fun e => nLr (by rw [← e]; exact hc)
    have h2 : c ≠ q := fun e => nqr (by rw [← e]; exact hc)
    exact (heap_setCell_other _ _ c _ h1).trans ((heap_setCell_other _ _ c _ h2).trans (heap_setCell_other _ _ c _ h1))))
  have hw1 : IntKind.i64.wrap (cn + 2 - 1) = cn + 1 := by rw [IntKind.wrap_i64]; omega
  have HCN := hide hcn
  clear H1 H2 Q1 Q2 hq0 hr0 h hd nLq nLr nqr hcn hl
  go_enter Try.func44, Try.ntmps44
  go_upto_region 0 with fail
  refine region_tail 9 (by kernel_rfl) (by kernel_rfl) ?_
  obtain ⟨V, hVe⟩ : ∃ V, V = w.drew := ⟨_, rfl⟩
  rw [← hVe] at CL HD HB HFr H3 Q3 HS p6 p7 l2 lf ⊢
  clear hVe
  simp only [List.take_succ_cons, List.take_zero, List.drop_succ_cons, List.drop_zero]
  repeat (first | go_big_quiet_skip | (go_big_quiet_want; go_big_quiet_op; go_big_quiet_on))
  refine wpQuiet_nil ?_
  clear p6 p7
  go_wp2_with (go_at_call 51; refine CL.out.mono ?_; rintro e w3 ⟨rfl, rfl⟩)
  go_end0
  refine ⟨rfl, HD.out.tail ?_ ⟨Q3.out, HS.out⟩, ((HB.out.setCell (p := ⟨L, 3, none⟩) HLB.out _).setCell (p := ⟨q, 6, none⟩) HQB.out _).setCell (p := ⟨L, 2, none⟩) HLB.out _, ((HFr.out.set (by simp) 3 _).set (by simp) 6 _).set (by simp) 2 _⟩
  have e : ((((q, oq) :: r).length : Nat) : Int) = cn + 1 := by rw [HCN.out]; simp only [List.length_cons]; omega
  unfold plV
  rw [e]
  exact H3.out
theorem drop_walk (B L p : Nat) (u x : Int) (o : PieceM) (ns : List (Nat × PieceM)) (w : World) (h : DL w B L u x ((p, o) :: ns)) (hl : ns.length ≤ 1048576) :
    Calls Try.prog 44 #[.pointer (some ⟨L, 0, none⟩), .pointer (some ⟨p, 0, none⟩)] w fun e w' => e = .returned (.tuple #[]) ∧ DL w' B L u x ns ∧ Below B w w' ∧ Fr (L :: bks ((p, o) :: ns)) w w' := by
  cases ns with
  | nil => exact drop_walk_n B L p u x o w h
  | cons q r => exact drop_walk_s B L p u x o q.1 q.2 r w h (by simp at hl; omega)
end Go.Proofs.Ytddkcgngpclgfab
