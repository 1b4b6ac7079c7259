/-
Contracts of functions of this seat.
-/
import Derived.Test.YtfffkgladjphoaaRows
import Derived.WalkKit
import Derived.ProofKit
import Derived.OpenShut
import Derived.Test.YtfffkgladjphoaaBl4
namespace Go.Proofs.Ytfffkgladjphoaa
open Go.ChangeShapes Go.WideShapes Go.ChangeAt Go.RowKit
set_option linter.unusedVariables false
set_option maxRecDepth 100000
/-- Where a list's piece is entered behind another one, and ahead of another one. -/
def lkA (L : Nat) (o : Option Nat) : Addr := match o with | some b => ⟨b, 7, none⟩ | none => ⟨L, 3, none⟩
def lkB (L : Nat) (o : Option Nat) : Addr := match o with | some b => ⟨b, 6, none⟩ | none => ⟨L, 4, none⟩
theorem hv_set {w : World} {H T : Nat} {vs : Array Value} (h : HoldV w H vs T) (i : Nat) (y : Value) : HoldV (w.setCell ⟨H, i, none⟩ y) H (vs.setIfInBounds i y) T := heap_setCell_same w H i _ _ y h
theorem hv_other {w : World} {H C T : Nat} {vs : Array Value} (h : HoldV w H vs T) (hC : H ≠ C) (i : Nat) (y : Value) : HoldV (w.setCell ⟨C, i, none⟩ y) H vs T := by
  unfold HoldV
  rw [heap_setCell_other _ ⟨C, i, none⟩ H y hC]
  exact h
theorem hv_new (w : World) (vs : Array Value) (T : Nat) : HoldV (w.alloc (.cells vs T)) w.heap.size vs T := heap_alloc_new _ _
theorem hv_alloc {w : World} {H T : Nat} {vs : Array Value} (h : HoldV w H vs T) (o : Obj) : HoldV (w.alloc o) H vs T := h.next ((Below.refl _ _).alloc (Nat.le_refl _) _)
set_option maxHeartbeats 2000000 in
theorem link_walk_nn (L  : Nat) (oA oB : Value) (w : World) (hA : w.cell? ⟨L, 3, none⟩ = some oA) (fA : w.frozen? ⟨L, 3, none⟩ = false) (hB : (w.setCell ⟨L, 3, none⟩ (.pointer none)).cell? ⟨L, 4, none⟩ = some oB) (fB : (w.setCell ⟨L, 3, none⟩ (.pointer none)).frozen? ⟨L, 4, none⟩ = false) :
    Calls Try.prog 37 #[.pointer (some ⟨L, 0, none⟩), .pointer none, .pointer none] w fun e w' => e = .returned (.tuple #[]) ∧ w' = (w.setCell ⟨L, 3, none⟩ (.pointer none)).setCell ⟨L, 4, none⟩ (.pointer none) := by
  go_enter Try.func37, Try.ntmps37
  go_wp2_with fail
  go_end0
  exact ⟨rfl, rfl⟩
set_option maxHeartbeats 2000000 in
theorem link_walk_ns (L q : Nat) (oA oB : Value) (w : World) (hA : w.cell? ⟨L, 3, none⟩ = some oA) (fA : w.frozen? ⟨L, 3, none⟩ = false) (hB : (w.setCell ⟨L, 3, none⟩ (.pointer (some ⟨q, 0, none⟩))).cell? ⟨q, 6, none⟩ = some oB) (fB : (w.setCell ⟨L, 3, none⟩ (.pointer (some ⟨q, 0, none⟩))).frozen? ⟨q, 6, none⟩ = false) :
    Calls Try.prog 37 #[.pointer (some ⟨L, 0, none⟩), .pointer none, .pointer (some ⟨q, 0, none⟩)] w fun e w' => e = .returned (.tuple #[]) ∧ w' = (w.setCell ⟨L, 3, none⟩ (.pointer (some ⟨q, 0, none⟩))).setCell ⟨q, 6, none⟩ (.pointer none) := by
  go_enter Try.func37, Try.ntmps37
  go_wp2_with fail
  go_end0
  exact ⟨rfl, rfl⟩
set_option maxHeartbeats 2000000 in
theorem link_walk_sn (L p : Nat) (oA oB : Value) (w : World) (hA : w.cell? ⟨p, 7, none⟩ = some oA) (fA : w.frozen? ⟨p, 7, none⟩ = false) (hB : (w.setCell ⟨p, 7, none⟩ (.pointer none)).cell? ⟨L, 4, none⟩ = some oB) (fB : (w.setCell ⟨p, 7, none⟩ (.pointer none)).frozen? ⟨L, 4, none⟩ = false) :
    Calls Try.prog 37 #[.pointer (some ⟨L, 0, none⟩), .pointer (some ⟨p, 0, none⟩), .pointer none] w fun e w' => e = .returned (.tuple #[]) ∧ w' = (w.setCell ⟨p, 7, none⟩ (.pointer none)).setCell ⟨L, 4, none⟩ (.pointer (some ⟨p, 0, none⟩)) := by
  go_enter Try.func37, Try.ntmps37
  go_wp2_with fail
  go_end0
  exact ⟨rfl, rfl⟩
set_option maxHeartbeats 2000000 in
theorem link_walk_ss (L p q : Nat) (oA oB : Value) (w : World) (hA : w.cell? ⟨p, 7, none⟩ = some oA) (fA : w.frozen? ⟨p, 7, none⟩ = false) (hB : (w.setCell ⟨p, 7, none⟩ (.pointer (some ⟨q, 0, none⟩))).cell? ⟨q, 6, none⟩ = some oB) (fB : (w.setCell ⟨p, 7, none⟩ (.pointer (some ⟨q, 0, none⟩))).frozen? ⟨q, 6, none⟩ = false) :
    Calls Try.prog 37 #[.pointer (some ⟨L, 0, none⟩), .pointer (some ⟨p, 0, none⟩), .pointer (some ⟨q, 0, none⟩)] w fun e w' => e = .returned (.tuple #[]) ∧ w' = (w.setCell ⟨p, 7, none⟩ (.pointer (some ⟨q, 0, none⟩))).setCell ⟨q, 6, none⟩ (.pointer (some ⟨p, 0, none⟩)) := by
  go_enter Try.func37, Try.ntmps37
  go_wp2_with fail
  go_end0
  exact ⟨rfl, rfl⟩
/-- A new piece between two parts of a list. -/
theorem DL.insert {w w' : World} {B L N : Nat} {u x : Int} {xs ys : List (Nat × PieceM)} {o : PieceM} (h : DL w B L u x (xs ++ ys)) (hN : w.heap.size ≤ N) (hB : B ≤ N)
    (hv : HoldV w' N (lpV o (lstO none xs) (fstO ys none)) lpT) (hL : HoldV w' L (plV u x (xs ++ (N, o) :: ys)) plT) (hxs : Seg w' none xs (some N)) (hys : Seg w' (some N) ys none) : DL w' B L u x (xs ++ (N, o) :: ys) := by
  have hn : N ∉ L :: bks (xs ++ ys) := fun e => by have := h.lt N e; omega
  refine ⟨hL, (seg_app xs _ _ _).2 ⟨hxs, hv, hys⟩, ?_, ?_⟩
  · have hp : (L :: bks (xs ++ (N, o) :: ys)).Perm (N :: L :: bks (xs ++ ys)) := by
      simp only [bks, List.map_append, List.map_cons]
      refine List.Perm.trans ?_ (List.Perm.swap _ _ _)
      exact List.Perm.cons _ List.perm_middle
    exact (hp.nodup_iff).2 (List.nodup_cons.2 ⟨hn, h.nd⟩)
  · intro b hb
    by_cases e : b = N
    · rw [e]; exact hB
    · refine h.lo b ?_
      simp only [bks, List.map_append, List.map_cons, List.mem_cons, List.mem_append] at hb ⊢
      rcases hb with hb | hb | hb | hb
      · exact .inl hb
      · exact .inr (.inl hb)
      · exact absurd hb e
      · exact .inr (.inr hb)
theorem lstO_mid (a b : List (Nat × PieceM)) (p q : Nat × PieceM) (pv : Option Nat) : lstO pv (a ++ p :: q :: b) = lstO pv (a ++ q :: b) := by rw [lstO_app, lstO_app]; rfl
theorem len_int (a b : List (Nat × PieceM)) (p : Nat × PieceM) : ((a ++ p :: b).length : Int) = ((a ++ b).length : Int) + 1 := by simp; omega
set_option maxHeartbeats 4000000 in
theorem put_walk_nn (B L : Nat) (u x : Int) (o : PieceM) (w : World) (h : DL w B L u x (([] : List (Nat × PieceM)) ++ ([] : List (Nat × PieceM)))) (hB : B ≤ w.heap.size) (hl : (([] : List (Nat × PieceM)) ++ ([] : List (Nat × PieceM))).length ≤ 1048576) :
    Calls Try.prog 32 #[.pointer (some ⟨L, 0, none⟩), .pointer none, pcV o, .pointer none] w fun e w' => e = .returned (.tuple #[]) ∧ DL w' B L u x (([] : List (Nat × PieceM)) ++ (w.heap.size + 1, o) :: ([] : List (Nat × PieceM))) ∧ Below B w w' ∧ w'.heap.size = w.heap.size + 2 := by
  have HD := hide h
  obtain ⟨cn, hcn⟩ : ∃ cn : Int, cn = ((([] : List (Nat × PieceM)) ++ ([] : List (Nat × PieceM))).length : Int) := ⟨_, rfl⟩
  have hL0 := h.head
  obtain ⟨sx, sy⟩ := (seg_app ([] : List (Nat × PieceM)) ([] : List (Nat × PieceM)) none none).1 h.seg
  have hnd := h.nd
  have hlt := h.lt
  have lL := hlt L (by simp)
  have hlo : B ≤ L := h.lo L (by simp)
  have hb0 : Below w.heap.size w ((w.alloc (.cells #[.int .i64 o.f0, .int .i64 o.f1, .int .i64 o.f2, .int .i64 o.f3, .bool o.f4, .bool o.f5] 36)).alloc (.cells #[.int .i64 o.f0, .int .i64 o.f1, .int .i64 o.f2, .int .i64 o.f3, .bool o.f4, .bool o.f5, .pointer none, .pointer none] lpT)) := ((Below.refl _ _).alloc (Nat.le_refl _) _).alloc (by simp) _
  have hs0 : ((w.alloc (.cells #[.int .i64 o.f0, .int .i64 o.f1, .int .i64 o.f2, .int .i64 o.f3, .bool o.f4, .bool o.f5] 36)).alloc (.cells #[.int .i64 o.f0, .int .i64 o.f1, .int .i64 o.f2, .int .i64 o.f3, .bool o.f4, .bool o.f5, .pointer none, .pointer none] lpT)).heap.size = w.heap.size + 2 := by rw [World.size_alloc, World.size_alloc]
  have HN0 : HoldV ((w.alloc (.cells #[.int .i64 o.f0, .int .i64 o.f1, .int .i64 o.f2, .int .i64 o.f3, .bool o.f4, .bool o.f5] 36)).alloc (.cells #[.int .i64 o.f0, .int .i64 o.f1, .int .i64 o.f2, .int .i64 o.f3, .bool o.f4, .bool o.f5, .pointer none, .pointer none] lpT)) (w.heap.size + 1) #[.int .i64 o.f0, .int .i64 o.f1, .int .i64 o.f2, .int .i64 o.f3, .bool o.f4, .bool o.f5, .pointer none, .pointer none] lpT := by have := hv_new (w.alloc (.cells #[.int .i64 o.f0, .int .i64 o.f1, .int .i64 o.f2, .int .i64 o.f3, .bool o.f4, .bool o.f5] 36)) #[.int .i64 o.f0, .int .i64 o.f1, .int .i64 o.f2, .int .i64 o.f3, .bool o.f4, .bool o.f5, .pointer none, .pointer none] lpT; rw [World.size_alloc] at this; exact this
  have HB0 : HoldV ((w.alloc (.cells #[.int .i64 o.f0, .int .i64 o.f1, .int .i64 o.f2, .int .i64 o.f3, .bool o.f4, .bool o.f5] 36)).alloc (.cells #[.int .i64 o.f0, .int .i64 o.f1, .int .i64 o.f2, .int .i64 o.f3, .bool o.f4, .bool o.f5, .pointer none, .pointer none] lpT)) w.heap.size #[.int .i64 o.f0, .int .i64 o.f1, .int .i64 o.f2, .int .i64 o.f3, .bool o.f4, .bool o.f5] 36 := (hv_new w _ _).next ((Below.refl _ _).alloc (Nat.le_refl _) _)
  have HL0 := hL0.next hb0
  have HN1 := hv_other HN0 (C := L) (by omega) 3 (.pointer (some ⟨w.heap.size + 1, 0, none⟩))
  have HL1 := hv_set HL0 3 (.pointer (some ⟨w.heap.size + 1, 0, none⟩))
  have C1 := hide (link_walk_ns L (w.heap.size + 1) _ _ _ (HL0.cell 3 _ rfl) (HL0.frozen 3) (HN1.cell 6 _ rfl) (HN1.frozen 6))
  have HN2 := hv_set HN1 6 (.pointer none)
  have HL2 := hv_other HL1 (C := (w.heap.size + 1)) (by omega) 6 (.pointer none)
  have hb1 : Below B w ((((w.alloc (.cells #[.int .i64 o.f0, .int .i64 o.f1, .int .i64 o.f2, .int .i64 o.f3, .bool o.f4, .bool o.f5] 36)).alloc (.cells #[.int .i64 o.f0, .int .i64 o.f1, .int .i64 o.f2, .int .i64 o.f3, .bool o.f4, .bool o.f5, .pointer none, .pointer none] lpT)).setCell ⟨L, 3, none⟩ (.pointer (some ⟨w.heap.size + 1, 0, none⟩))).setCell ⟨w.heap.size + 1, 6, none⟩ (.pointer none)) := ((hb0.mono hB).setCell (p := ⟨L, 3, none⟩) (by show B ≤ L; omega) _).setCell (p := ⟨w.heap.size + 1, 6, none⟩) (by show B ≤ w.heap.size + 1; omega) _
  have hs1 : ((((w.alloc (.cells #[.int .i64 o.f0, .int .i64 o.f1, .int .i64 o.f2, .int .i64 o.f3, .bool o.f4, .bool o.f5] 36)).alloc (.cells #[.int .i64 o.f0, .int .i64 o.f1, .int .i64 o.f2, .int .i64 o.f3, .bool o.f4, .bool o.f5, .pointer none, .pointer none] lpT)).setCell ⟨L, 3, none⟩ (.pointer (some ⟨w.heap.size + 1, 0, none⟩))).setCell ⟨w.heap.size + 1, 6, none⟩ (.pointer none)).heap.size = w.heap.size + 2 := by simp only [World.size_setCell]; exact hs0
  have hk1 : ∀ c, c < w.heap.size → c ≠ L → ((((w.alloc (.cells #[.int .i64 o.f0, .int .i64 o.f1, .int .i64 o.f2, .int .i64 o.f3, .bool o.f4, .bool o.f5] 36)).alloc (.cells #[.int .i64 o.f0, .int .i64 o.f1, .int .i64 o.f2, .int .i64 o.f3, .bool o.f4, .bool o.f5, .pointer none, .pointer none] lpT)).setCell ⟨L, 3, none⟩ (.pointer (some ⟨w.heap.size + 1, 0, none⟩))).setCell ⟨w.heap.size + 1, 6, none⟩ (.pointer none)).heap[c]? = w.heap[c]? := fun c hc h1 => (heap_setCell_other _ _ c _ (show c ≠ w.heap.size + 1 by omega)).trans ((heap_setCell_other _ _ c _ h1).trans (hb0.block c hc))
  obtain ⟨W1, hW1⟩ : ∃ W, W = ((((w.alloc (.cells #[.int .i64 o.f0, .int .i64 o.f1, .int .i64 o.f2, .int .i64 o.f3, .bool o.f4, .bool o.f5] 36)).alloc (.cells #[.int .i64 o.f0, .int .i64 o.f1, .int .i64 o.f2, .int .i64 o.f3, .bool o.f4, .bool o.f5, .pointer none, .pointer none] lpT)).setCell ⟨L, 3, none⟩ (.pointer (some ⟨w.heap.size + 1, 0, none⟩))).setCell ⟨w.heap.size + 1, 6, none⟩ (.pointer none)) := ⟨_, rfl⟩
  rw [← hW1] at C1 hb1 hs1 hk1 HN2 HL2
  clear hW1
  have HN3 := hv_set HN2 7 (.pointer none)
  have HL3 := hv_other HL2 (C := (w.heap.size + 1)) (by omega) 7 (.pointer none)
  have C2 := hide (link_walk_sn L (w.heap.size + 1) _ _ W1 (HN2.cell 7 _ rfl) (HN2.frozen 7) (HL3.cell 4 _ rfl) (HL3.frozen 4))
  have HN4 := hv_other HN3 (C := L) (by omega) 4 (.pointer (some ⟨w.heap.size + 1, 0, none⟩))
  have HL4 := hv_set HL3 4 (.pointer (some ⟨w.heap.size + 1, 0, none⟩))
  have hb2 : Below B w ((W1.setCell ⟨w.heap.size + 1, 7, none⟩ (.pointer none)).setCell ⟨L, 4, none⟩ (.pointer (some ⟨w.heap.size + 1, 0, none⟩))) := (hb1.setCell (p := ⟨w.heap.size + 1, 7, none⟩) (by show B ≤ w.heap.size + 1; omega) _).setCell (p := ⟨L, 4, none⟩) (by show B ≤ L; omega) _
  have hs2 : ((W1.setCell ⟨w.heap.size + 1, 7, none⟩ (.pointer none)).setCell ⟨L, 4, none⟩ (.pointer (some ⟨w.heap.size + 1, 0, none⟩))).heap.size = w.heap.size + 2 := by simp only [World.size_setCell]; exact hs1
  have hk2 : ∀ c, c < w.heap.size → c ≠ L → ((W1.setCell ⟨w.heap.size + 1, 7, none⟩ (.pointer none)).setCell ⟨L, 4, none⟩ (.pointer (some ⟨w.heap.size + 1, 0, none⟩))).heap[c]? = w.heap[c]? := fun c hc nL => (heap_setCell_other _ _ c _ nL).trans ((heap_setCell_other _ _ c _ (show c ≠ w.heap.size + 1 by omega)).trans (hk1 c hc nL))
  obtain ⟨W2, hW2⟩ : ∃ W, W = ((W1.setCell ⟨w.heap.size + 1, 7, none⟩ (.pointer none)).setCell ⟨L, 4, none⟩ (.pointer (some ⟨w.heap.size + 1, 0, none⟩))) := ⟨_, rfl⟩
  rw [← hW2] at C2 hb2 hs2 hk2 HN4 HL4
  clear hW2
  have c2 : W2.cell? ⟨L, 2, none⟩ = some (.int .i64 cn) := by rw [hcn]; exact HL4.cell 2 _ rfl
  have f2 := HL4.frozen 2
  have b0 := HB0.cell 0 _ rfl; have b1 := HB0.cell 1 _ rfl; have b2 := HB0.cell 2 _ rfl; have b3 := HB0.cell 3 _ rfl; have b4 := HB0.cell 4 _ rfl; have b5 := HB0.cell 5 _ rfl
  have HN5 := hv_other HN4 (C := L) (by omega) 2 (.int .i64 (cn + 1))
  have HL5 := hv_set HL4 2 (.int .i64 (cn + 1))
  have hb3 : Below B w (W2.setCell ⟨L, 2, none⟩ (.int .i64 (cn + 1))) := hb2.setCell (p := ⟨L, 2, none⟩) (by show B ≤ L; omega) _
  have hkeep : ∀ c, c < w.heap.size → c ≠ L → (W2.setCell ⟨L, 2, none⟩ (.int .i64 (cn + 1))).heap[c]? = w.heap[c]? := fun c hc nL => (heap_setCell_other _ _ c _ nL).trans (hk2 c hc nL)
  have FIN : Hid (DL (W2.setCell ⟨L, 2, none⟩ (.int .i64 (cn + 1))) B L u x (([] : List (Nat × PieceM)) ++ (w.heap.size + 1, o) :: ([] : List (Nat × PieceM))) ∧ Below B w (W2.setCell ⟨L, 2, none⟩ (.int .i64 (cn + 1))) ∧ (W2.setCell ⟨L, 2, none⟩ (.int .i64 (cn + 1))).heap.size = w.heap.size + 2) := hide (by
    refine ⟨HD.out.insert (by omega) (by omega) ?_ ?_ ?_ ?_, hb3, by rw [World.size_setCell]; exact hs2⟩
    · exact HN5
    · have e := len_int ([] : List (Nat × PieceM)) ([] : List (Nat × PieceM)) (w.heap.size + 1, o)
      have e1 : fstO (([] : List (Nat × PieceM)) ++ (w.heap.size + 1, o) :: ([] : List (Nat × PieceM))) none = some (w.heap.size + 1) := rfl
      have e2 : lstO none (([] : List (Nat × PieceM)) ++ (w.heap.size + 1, o) :: ([] : List (Nat × PieceM))) = some (w.heap.size + 1) := lstO_snoc _ _ _
      unfold plV
      rw [e, ← hcn, e1, e2]
      exact HL5
    · exact trivial
    · exact trivial)
  clear HD h sx sy hkeep hk2 hnd hlt hlo hb0 hb1 hb2 hb3 hs0 hs1 hs2 hL0 HN0 HB0 HL0 lL HN1 HN2 HN3 HN4 HN5 HL1 HL2 HL3 HL4 HL5
  have hcl : ((([] : List (Nat × PieceM)) ++ ([] : List (Nat × PieceM))).length : Int) ≤ 1048576 := by omega
  have hcl0 : 0 ≤ ((([] : List (Nat × PieceM)) ++ ([] : List (Nat × PieceM))).length : Int) := by omega
  rw [← hcn] at hcl hcl0
  clear hcn hl
  go_enter Try.func32, Try.ntmps32
  go_wp2_with fail
  refine C1.out.mono ?_
  rintro e w1 ⟨rfl, rfl⟩
  go_wp2_with fail
  refine C2.out.mono ?_
  rintro e w1 ⟨rfl, rfl⟩
  go_wp2_with fail
  go_end0
  exact ⟨rfl, FIN.out⟩
set_option maxHeartbeats 4000000 in
theorem put_walk_ns (B L : Nat) (u x : Int) (q : Nat) (oq : PieceM) (ys0 : List (Nat × PieceM)) (o : PieceM) (w : World) (h : DL w B L u x (([] : List (Nat × PieceM)) ++ ((q, oq) :: ys0))) (hB : B ≤ w.heap.size) (hl : (([] : List (Nat × PieceM)) ++ ((q, oq) :: ys0)).length ≤ 1048576) :
    Calls Try.prog 32 #[.pointer (some ⟨L, 0, none⟩), .pointer none, pcV o, .pointer (some ⟨q, 0, none⟩)] w fun e w' => e = .returned (.tuple #[]) ∧ DL w' B L u x (([] : List (Nat × PieceM)) ++ (w.heap.size + 1, o) :: ((q, oq) :: ys0)) ∧ Below B w w' ∧ w'.heap.size = w.heap.size + 2 := by
  have HD := hide h
  obtain ⟨cn, hcn⟩ : ∃ cn : Int, cn = ((([] : List (Nat × PieceM)) ++ ((q, oq) :: ys0)).length : Int) := ⟨_, rfl⟩
  have hL0 := h.head
  obtain ⟨sx, sy⟩ := (seg_app ([] : List (Nat × PieceM)) ((q, oq) :: ys0) none none).1 h.seg
  obtain ⟨hq0, sy0⟩ := sy
  have hnd := h.nd
  have hlt := h.lt
  have NQ := nd_mid (b := q) (o := oq) (xs := ([] : List (Nat × PieceM))) (ys := ys0) (L := L) hnd
  have qL := NQ.2.2
  have lq := hlt q (by simp [bks])
  have lL := hlt L (by simp)
  have hlo : B ≤ q ∧ B ≤ L := ⟨h.lo q (by simp [bks]), h.lo L (by simp)⟩
  have hb0 : Below w.heap.size w ((w.alloc (.cells #[.int .i64 o.f0, .int .i64 o.f1, .int .i64 o.f2, .int .i64 o.f3, .bool o.f4, .bool o.f5] 36)).alloc (.cells #[.int .i64 o.f0, .int .i64 o.f1, .int .i64 o.f2, .int .i64 o.f3, .bool o.f4, .bool o.f5, .pointer none, .pointer none] lpT)) := ((Below.refl _ _).alloc (Nat.le_refl _) _).alloc (by simp) _
  have hs0 : ((w.alloc (.cells #[.int .i64 o.f0, .int .i64 o.f1, .int .i64 o.f2, .int .i64 o.f3, .bool o.f4, .bool o.f5] 36)).alloc (.cells #[.int .i64 o.f0, .int .i64 o.f1, .int .i64 o.f2, .int .i64 o.f3, .bool o.f4, .bool o.f5, .pointer none, .pointer none] lpT)).heap.size = w.heap.size + 2 := by rw [World.size_alloc, World.size_alloc]
  have HN0 : HoldV ((w.alloc (.cells #[.int .i64 o.f0, .int .i64 o.f1, .int .i64 o.f2, .int .i64 o.f3, .bool o.f4, .bool o.f5] 36)).alloc (.cells #[.int .i64 o.f0, .int .i64 o.f1, .int .i64 o.f2, .int .i64 o.f3, .bool o.f4, .bool o.f5, .pointer none, .pointer none] lpT)) (w.heap.size + 1) #[.int .i64 o.f0, .int .i64 o.f1, .int .i64 o.f2, .int .i64 o.f3, .bool o.f4, .bool o.f5, .pointer none, .pointer none] lpT := by have := hv_new (w.alloc (.cells #[.int .i64 o.f0, .int .i64 o.f1, .int .i64 o.f2, .int .i64 o.f3, .bool o.f4, .bool o.f5] 36)) #[.int .i64 o.f0, .int .i64 o.f1, .int .i64 o.f2, .int .i64 o.f3, .bool o.f4, .bool o.f5, .pointer none, .pointer none] lpT; rw [World.size_alloc] at this; exact this
  have HB0 : HoldV ((w.alloc (.cells #[.int .i64 o.f0, .int .i64 o.f1, .int .i64 o.f2, .int .i64 o.f3, .bool o.f4, .bool o.f5] 36)).alloc (.cells #[.int .i64 o.f0, .int .i64 o.f1, .int .i64 o.f2, .int .i64 o.f3, .bool o.f4, .bool o.f5, .pointer none, .pointer none] lpT)) w.heap.size #[.int .i64 o.f0, .int .i64 o.f1, .int .i64 o.f2, .int .i64 o.f3, .bool o.f4, .bool o.f5] 36 := (hv_new w _ _).next ((Below.refl _ _).alloc (Nat.le_refl _) _)
  have HL0 := hL0.next hb0
  have HQ0 := hq0.next hb0
  have HN1 := hv_other HN0 (C := L) (by omega) 3 (.pointer (some ⟨w.heap.size + 1, 0, none⟩))
  have HL1 := hv_set HL0 3 (.pointer (some ⟨w.heap.size + 1, 0, none⟩))
  have HQ1 := hv_other HQ0 (C := L) qL 3 (.pointer (some ⟨w.heap.size + 1, 0, none⟩))
  have C1 := hide (link_walk_ns L (w.heap.size + 1) _ _ _ (HL0.cell 3 _ rfl) (HL0.frozen 3) (HN1.cell 6 _ rfl) (HN1.frozen 6))
  have HN2 := hv_set HN1 6 (.pointer none)
  have HL2 := hv_other HL1 (C := (w.heap.size + 1)) (by omega) 6 (.pointer none)
  have HQ2 := hv_other HQ1 (C := (w.heap.size + 1)) (by omega) 6 (.pointer none)
  have hb1 : Below B w ((((w.alloc (.cells #[.int .i64 o.f0, .int .i64 o.f1, .int .i64 o.f2, .int .i64 o.f3, .bool o.f4, .bool o.f5] 36)).alloc (.cells #[.int .i64 o.f0, .int .i64 o.f1, .int .i64 o.f2, .int .i64 o.f3, .bool o.f4, .bool o.f5, .pointer none, .pointer none] lpT)).setCell ⟨L, 3, none⟩ (.pointer (some ⟨w.heap.size + 1, 0, none⟩))).setCell ⟨w.heap.size + 1, 6, none⟩ (.pointer none)) := ((hb0.mono hB).setCell (p := ⟨L, 3, none⟩) (by show B ≤ L; omega) _).setCell (p := ⟨w.heap.size + 1, 6, none⟩) (by show B ≤ w.heap.size + 1; omega) _
  have hs1 : ((((w.alloc (.cells #[.int .i64 o.f0, .int .i64 o.f1, .int .i64 o.f2, .int .i64 o.f3, .bool o.f4, .bool o.f5] 36)).alloc (.cells #[.int .i64 o.f0, .int .i64 o.f1, .int .i64 o.f2, .int .i64 o.f3, .bool o.f4, .bool o.f5, .pointer none, .pointer none] lpT)).setCell ⟨L, 3, none⟩ (.pointer (some ⟨w.heap.size + 1, 0, none⟩))).setCell ⟨w.heap.size + 1, 6, none⟩ (.pointer none)).heap.size = w.heap.size + 2 := by simp only [World.size_setCell]; exact hs0
  have hk1 : ∀ c, c < w.heap.size → c ≠ L → ((((w.alloc (.cells #[.int .i64 o.f0, .int .i64 o.f1, .int .i64 o.f2, .int .i64 o.f3, .bool o.f4, .bool o.f5] 36)).alloc (.cells #[.int .i64 o.f0, .int .i64 o.f1, .int .i64 o.f2, .int .i64 o.f3, .bool o.f4, .bool o.f5, .pointer none, .pointer none] lpT)).setCell ⟨L, 3, none⟩ (.pointer (some ⟨w.heap.size + 1, 0, none⟩))).setCell ⟨w.heap.size + 1, 6, none⟩ (.pointer none)).heap[c]? = w.heap[c]? := fun c hc h1 => (heap_setCell_other _ _ c _ (show c ≠ w.heap.size + 1 by omega)).trans ((heap_setCell_other _ _ c _ h1).trans (hb0.block c hc))
  obtain ⟨W1, hW1⟩ : ∃ W, W = ((((w.alloc (.cells #[.int .i64 o.f0, .int .i64 o.f1, .int .i64 o.f2, .int .i64 o.f3, .bool o.f4, .bool o.f5] 36)).alloc (.cells #[.int .i64 o.f0, .int .i64 o.f1, .int .i64 o.f2, .int .i64 o.f3, .bool o.f4, .bool o.f5, .pointer none, .pointer none] lpT)).setCell ⟨L, 3, none⟩ (.pointer (some ⟨w.heap.size + 1, 0, none⟩))).setCell ⟨w.heap.size + 1, 6, none⟩ (.pointer none)) := ⟨_, rfl⟩
  rw [← hW1] at C1 hb1 hs1 hk1 HN2 HL2 HQ2
  clear hW1
  have HN3 := hv_set HN2 7 (.pointer (some ⟨q, 0, none⟩))
  have HL3 := hv_other HL2 (C := (w.heap.size + 1)) (by omega) 7 (.pointer (some ⟨q, 0, none⟩))
  have HQ3 := hv_other HQ2 (C := (w.heap.size + 1)) (by omega) 7 (.pointer (some ⟨q, 0, none⟩))
  have C2 := hide (link_walk_ss L (w.heap.size + 1) q _ _ W1 (HN2.cell 7 _ rfl) (HN2.frozen 7) (HQ3.cell 6 _ rfl) (HQ3.frozen 6))
  have HN4 := hv_other HN3 (C := q) (by omega) 6 (.pointer (some ⟨w.heap.size + 1, 0, none⟩))
  have HL4 := hv_other HL3 (C := q) (fun e => qL e.symm) 6 (.pointer (some ⟨w.heap.size + 1, 0, none⟩))
  have HQ4 := hv_set HQ3 6 (.pointer (some ⟨w.heap.size + 1, 0, none⟩))
  have hb2 : Below B w ((W1.setCell ⟨w.heap.size + 1, 7, none⟩ (.pointer (some ⟨q, 0, none⟩))).setCell ⟨q, 6, none⟩ (.pointer (some ⟨w.heap.size + 1, 0, none⟩))) := (hb1.setCell (p := ⟨w.heap.size + 1, 7, none⟩) (by show B ≤ w.heap.size + 1; omega) _).setCell (p := ⟨q, 6, none⟩) (by show B ≤ q; omega) _
  have hs2 : ((W1.setCell ⟨w.heap.size + 1, 7, none⟩ (.pointer (some ⟨q, 0, none⟩))).setCell ⟨q, 6, none⟩ (.pointer (some ⟨w.heap.size + 1, 0, none⟩))).heap.size = w.heap.size + 2 := by simp only [World.size_setCell]; exact hs1
  have hk2 : ∀ c, c < w.heap.size → c ≠ L → c ≠ q → ((W1.setCell ⟨w.heap.size + 1, 7, none⟩ (.pointer (some ⟨q, 0, none⟩))).setCell ⟨q, 6, none⟩ (.pointer (some ⟨w.heap.size + 1, 0, none⟩))).heap[c]? = w.heap[c]? := fun c hc nL nq => (heap_setCell_other _ _ c _ nq).trans ((heap_setCell_other _ _ c _ (show c ≠ w.heap.size + 1 by omega)).trans (hk1 c hc nL))
  obtain ⟨W2, hW2⟩ : ∃ W, W = ((W1.setCell ⟨w.heap.size + 1, 7, none⟩ (.pointer (some ⟨q, 0, none⟩))).setCell ⟨q, 6, none⟩ (.pointer (some ⟨w.heap.size + 1, 0, none⟩))) := ⟨_, rfl⟩
  rw [← hW2] at C2 hb2 hs2 hk2 HN4 HL4 HQ4
  clear hW2
  have c2 : W2.cell? ⟨L, 2, none⟩ = some (.int .i64 cn) := by rw [hcn]; exact HL4.cell 2 _ rfl
  have f2 := HL4.frozen 2
  have b0 := HB0.cell 0 _ rfl; have b1 := HB0.cell 1 _ rfl; have b2 := HB0.cell 2 _ rfl; have b3 := HB0.cell 3 _ rfl; have b4 := HB0.cell 4 _ rfl; have b5 := HB0.cell 5 _ rfl
  have HN5 := hv_other HN4 (C := L) (by omega) 2 (.int .i64 (cn + 1))
  have HL5 := hv_set HL4 2 (.int .i64 (cn + 1))
  have HQ5 := hv_other HQ4 (C := L) qL 2 (.int .i64 (cn + 1))
  have hb3 : Below B w (W2.setCell ⟨L, 2, none⟩ (.int .i64 (cn + 1))) := hb2.setCell (p := ⟨L, 2, none⟩) (by show B ≤ L; omega) _
  have hkeep : ∀ c, c < w.heap.size → c ≠ L → c ≠ q → (W2.setCell ⟨L, 2, none⟩ (.int .i64 (cn + 1))).heap[c]? = w.heap[c]? := fun c hc nL nq => (heap_setCell_other _ _ c _ nL).trans (hk2 c hc nL nq)
  have FIN : Hid (DL (W2.setCell ⟨L, 2, none⟩ (.int .i64 (cn + 1))) B L u x (([] : List (Nat × PieceM)) ++ (w.heap.size + 1, o) :: ((q, oq) :: ys0)) ∧ Below B w (W2.setCell ⟨L, 2, none⟩ (.int .i64 (cn + 1))) ∧ (W2.setCell ⟨L, 2, none⟩ (.int .i64 (cn + 1))).heap.size = w.heap.size + 2) := hide (by
    refine ⟨HD.out.insert (by omega) (by omega) ?_ ?_ ?_ ?_, hb3, by rw [World.size_setCell]; exact hs2⟩
    · exact HN5
    · have e := len_int ([] : List (Nat × PieceM)) ((q, oq) :: ys0) (w.heap.size + 1, o)
      have e1 : fstO (([] : List (Nat × PieceM)) ++ (w.heap.size + 1, o) :: ((q, oq) :: ys0)) none = some (w.heap.size + 1) := rfl
      have e2 : lstO none (([] : List (Nat × PieceM)) ++ (w.heap.size + 1, o) :: ((q, oq) :: ys0)) = lstO none (([] : List (Nat × PieceM)) ++ ((q, oq) :: ys0)) := lstO_mid ([] : List (Nat × PieceM)) ys0 _ _ none
      unfold plV
      rw [e, ← hcn, e1, e2]
      exact HL5
    · exact trivial
    · exact ⟨HQ5, sy0.frame (fun c hc => hkeep c (sy0.lt c hc) (fun e => (List.nodup_cons.1 hnd).1 (by rw [← e]; simp only [bks, List.map_append, List.map_cons, List.mem_append, List.mem_cons]; exact .inr (.inr hc))) (fun e => NQ.2.1 (by rw [← e]; exact hc)))⟩)
  clear HD h sx hkeep hk2 hnd hlt hlo hb0 hb1 hb2 hb3 hs0 hs1 hs2 hL0 HN0 HB0 HL0 lL hq0 sy0 NQ qL lq HQ0 HN1 HN2 HN3 HN4 HN5 HL1 HL2 HL3 HL4 HL5 HQ1 HQ2 HQ3 HQ4 HQ5
  have hcl : ((([] : List (Nat × PieceM)) ++ ((q, oq) :: ys0)).length : Int) ≤ 1048576 := by omega
  have hcl0 : 0 ≤ ((([] : List (Nat × PieceM)) ++ ((q, oq) :: ys0)).length : Int) := by omega
  rw [← hcn] at hcl hcl0
  clear hcn hl
  go_enter Try.func32, Try.ntmps32
  go_wp2_with fail
  refine C1.out.mono ?_
  rintro e w1 ⟨rfl, rfl⟩
  go_wp2_with fail
  refine C2.out.mono ?_
  rintro e w1 ⟨rfl, rfl⟩
  go_wp2_with fail
  go_end0
  exact ⟨rfl, FIN.out⟩
set_option maxHeartbeats 4000000 in
theorem put_walk_sn (B L : Nat) (u x : Int) (p : Nat) (op : PieceM) (xs0 : List (Nat × PieceM)) (o : PieceM) (w : World) (h : DL w B L u x ((xs0 ++ [(p, op)]) ++ ([] : List (Nat × PieceM)))) (hB : B ≤ w.heap.size) (hl : ((xs0 ++ [(p, op)]) ++ ([] : List (Nat × PieceM))).length ≤ 1048576) :
    Calls Try.prog 32 #[.pointer (some ⟨L, 0, none⟩), .pointer (some ⟨p, 0, none⟩), pcV o, .pointer none] w fun e w' => e = .returned (.tuple #[]) ∧ DL w' B L u x ((xs0 ++ [(p, op)]) ++ (w.heap.size + 1, o) :: ([] : List (Nat × PieceM))) ∧ Below B w w' ∧ w'.heap.size = w.heap.size + 2 := by
  have HD := hide h
  obtain ⟨cn, hcn⟩ : ∃ cn : Int, cn = (((xs0 ++ [(p, op)]) ++ ([] : List (Nat × PieceM))).length : Int) := ⟨_, rfl⟩
  have hL0 := h.head
  obtain ⟨sx, sy⟩ := (seg_app (xs0 ++ [(p, op)]) ([] : List (Nat × PieceM)) none none).1 h.seg
  obtain ⟨sx0, hp0, _⟩ := (seg_app xs0 [(p, op)] none _).1 sx
  have hnd := h.nd
  have hlt := h.lt
  have NP := nd_mid (b := p) (o := op) (xs := xs0) (ys := ([] : List (Nat × PieceM))) (L := L) (by simpa [List.append_assoc] using hnd)
  have pL := NP.2.2
  have lp := hlt p (by simp [bks])
  have lL := hlt L (by simp)
  have hlo : B ≤ p ∧ B ≤ L := ⟨h.lo p (by simp [bks]), h.lo L (by simp)⟩
  have hb0 : Below w.heap.size w ((w.alloc (.cells #[.int .i64 o.f0, .int .i64 o.f1, .int .i64 o.f2, .int .i64 o.f3, .bool o.f4, .bool o.f5] 36)).alloc (.cells #[.int .i64 o.f0, .int .i64 o.f1, .int .i64 o.f2, .int .i64 o.f3, .bool o.f4, .bool o.f5, .pointer none, .pointer none] lpT)) := ((Below.refl _ _).alloc (Nat.le_refl _) _).alloc (by simp) _
  have hs0 : ((w.alloc (.cells #[.int .i64 o.f0, .int .i64 o.f1, .int .i64 o.f2, .int .i64 o.f3, .bool o.f4, .bool o.f5] 36)).alloc (.cells #[.int .i64 o.f0, .int .i64 o.f1, .int .i64 o.f2, .int .i64 o.f3, .bool o.f4, .bool o.f5, .pointer none, .pointer none] lpT)).heap.size = w.heap.size + 2 := by rw [World.size_alloc, World.size_alloc]
  have HN0 : HoldV ((w.alloc (.cells #[.int .i64 o.f0, .int .i64 o.f1, .int .i64 o.f2, .int .i64 o.f3, .bool o.f4, .bool o.f5] 36)).alloc (.cells #[.int .i64 o.f0, .int .i64 o.f1, .int .i64 o.f2, .int .i64 o.f3, .bool o.f4, .bool o.f5, .pointer none, .pointer none] lpT)) (w.heap.size + 1) #[.int .i64 o.f0, .int .i64 o.f1, .int .i64 o.f2, .int .i64 o.f3, .bool o.f4, .bool o.f5, .pointer none, .pointer none] lpT := by have := hv_new (w.alloc (.cells #[.int .i64 o.f0, .int .i64 o.f1, .int .i64 o.f2, .int .i64 o.f3, .bool o.f4, .bool o.f5] 36)) #[.int .i64 o.f0, .int .i64 o.f1, .int .i64 o.f2, .int .i64 o.f3, .bool o.f4, .bool o.f5, .pointer none, .pointer none] lpT; rw [World.size_alloc] at this; exact this
  have HB0 : HoldV ((w.alloc (.cells #[.int .i64 o.f0, .int .i64 o.f1, .int .i64 o.f2, .int .i64 o.f3, .bool o.f4, .bool o.f5] 36)).alloc (.cells #[.int .i64 o.f0, .int .i64 o.f1, .int .i64 o.f2, .int .i64 o.f3, .bool o.f4, .bool o.f5, .pointer none, .pointer none] lpT)) w.heap.size #[.int .i64 o.f0, .int .i64 o.f1, .int .i64 o.f2, .int .i64 o.f3, .bool o.f4, .bool o.f5] 36 := (hv_new w _ _).next ((Below.refl _ _).alloc (Nat.le_refl _) _)
  have HL0 := hL0.next hb0
  have HP0 := hp0.next hb0
  have HN1 := hv_other HN0 (C := p) (by omega) 7 (.pointer (some ⟨w.heap.size + 1, 0, none⟩))
  have HL1 := hv_other HL0 (C := p) (fun e => pL e.symm) 7 (.pointer (some ⟨w.heap.size + 1, 0, none⟩))
  have HP1 := hv_set HP0 7 (.pointer (some ⟨w.heap.size + 1, 0, none⟩))
  have C1 := hide (link_walk_ss L p (w.heap.size + 1) _ _ _ (HP0.cell 7 _ rfl) (HP0.frozen 7) (HN1.cell 6 _ rfl) (HN1.frozen 6))
  have HN2 := hv_set HN1 6 (.pointer (some ⟨p, 0, none⟩))
  have HL2 := hv_other HL1 (C := (w.heap.size + 1)) (by omega) 6 (.pointer (some ⟨p, 0, none⟩))
  have HP2 := hv_other HP1 (C := (w.heap.size + 1)) (by omega) 6 (.pointer (some ⟨p, 0, none⟩))
  have hb1 : Below B w ((((w.alloc (.cells #[.int .i64 o.f0, .int .i64 o.f1, .int .i64 o.f2, .int .i64 o.f3, .bool o.f4, .bool o.f5] 36)).alloc (.cells #[.int .i64 o.f0, .int .i64 o.f1, .int .i64 o.f2, .int .i64 o.f3, .bool o.f4, .bool o.f5, .pointer none, .pointer none] lpT)).setCell ⟨p, 7, none⟩ (.pointer (some ⟨w.heap.size + 1, 0, none⟩))).setCell ⟨w.heap.size + 1, 6, none⟩ (.pointer (some ⟨p, 0, none⟩))) := ((hb0.mono hB).setCell (p := ⟨p, 7, none⟩) (by show B ≤ p; omega) _).setCell (p := ⟨w.heap.size + 1, 6, none⟩) (by show B ≤ w.heap.size + 1; omega) _
  have hs1 : ((((w.alloc (.cells #[.int .i64 o.f0, .int .i64 o.f1, .int .i64 o.f2, .int .i64 o.f3, .bool o.f4, .bool o.f5] 36)).alloc (.cells #[.int .i64 o.f0, .int .i64 o.f1, .int .i64 o.f2, .int .i64 o.f3, .bool o.f4, .bool o.f5, .pointer none, .pointer none] lpT)).setCell ⟨p, 7, none⟩ (.pointer (some ⟨w.heap.size + 1, 0, none⟩))).setCell ⟨w.heap.size + 1, 6, none⟩ (.pointer (some ⟨p, 0, none⟩))).heap.size = w.heap.size + 2 := by simp only [World.size_setCell]; exact hs0
  have hk1 : ∀ c, c < w.heap.size → c ≠ p → ((((w.alloc (.cells #[.int .i64 o.f0, .int .i64 o.f1, .int .i64 o.f2, .int .i64 o.f3, .bool o.f4, .bool o.f5] 36)).alloc (.cells #[.int .i64 o.f0, .int .i64 o.f1, .int .i64 o.f2, .int .i64 o.f3, .bool o.f4, .bool o.f5, .pointer none, .pointer none] lpT)).setCell ⟨p, 7, none⟩ (.pointer (some ⟨w.heap.size + 1, 0, none⟩))).setCell ⟨w.heap.size + 1, 6, none⟩ (.pointer (some ⟨p, 0, none⟩))).heap[c]? = w.heap[c]? := fun c hc h1 => (heap_setCell_other _ _ c _ (show c ≠ w.heap.size + 1 by omega)).trans ((heap_setCell_other _ _ c _ h1).trans (hb0.block c hc))
  obtain ⟨W1, hW1⟩ : ∃ W, W = ((((w.alloc (.cells #[.int .i64 o.f0, .int .i64 o.f1, .int .i64 o.f2, .int .i64 o.f3, .bool o.f4, .bool o.f5] 36)).alloc (.cells #[.int .i64 o.f0, .int .i64 o.f1, .int .i64 o.f2, .int .i64 o.f3, .bool o.f4, .bool o.f5, .pointer none, .pointer none] lpT)).setCell ⟨p, 7, none⟩ (.pointer (some ⟨w.heap.size + 1, 0, none⟩))).setCell ⟨w.heap.size + 1, 6, none⟩ (.pointer (some ⟨p, 0, none⟩))) := ⟨_, rfl⟩
  rw [← hW1] at C1 hb1 hs1 hk1 HN2 HL2 HP2
  clear hW1
  have HN3 := hv_set HN2 7 (.pointer none)
  have HL3 := hv_other HL2 (C := (w.heap.size + 1)) (by omega) 7 (.pointer none)
  have HP3 := hv_other HP2 (C := (w.heap.size + 1)) (by omega) 7 (.pointer none)
  have C2 := hide (link_walk_sn L (w.heap.size + 1) _ _ W1 (HN2.cell 7 _ rfl) (HN2.frozen 7) (HL3.cell 4 _ rfl) (HL3.frozen 4))
  have HN4 := hv_other HN3 (C := L) (by omega) 4 (.pointer (some ⟨w.heap.size + 1, 0, none⟩))
  have HL4 := hv_set HL3 4 (.pointer (some ⟨w.heap.size + 1, 0, none⟩))
  have HP4 := hv_other HP3 (C := L) pL 4 (.pointer (some ⟨w.heap.size + 1, 0, none⟩))
  have hb2 : Below B w ((W1.setCell ⟨w.heap.size + 1, 7, none⟩ (.pointer none)).setCell ⟨L, 4, none⟩ (.pointer (some ⟨w.heap.size + 1, 0, none⟩))) := (hb1.setCell (p := ⟨w.heap.size + 1, 7, none⟩) (by show B ≤ w.heap.size + 1; omega) _).setCell (p := ⟨L, 4, none⟩) (by show B ≤ L; omega) _
  have hs2 : ((W1.setCell ⟨w.heap.size + 1, 7, none⟩ (.pointer none)).setCell ⟨L, 4, none⟩ (.pointer (some ⟨w.heap.size + 1, 0, none⟩))).heap.size = w.heap.size + 2 := by simp only [World.size_setCell]; exact hs1
  have hk2 : ∀ c, c < w.heap.size → c ≠ L → c ≠ p → ((W1.setCell ⟨w.heap.size + 1, 7, none⟩ (.pointer none)).setCell ⟨L, 4, none⟩ (.pointer (some ⟨w.heap.size + 1, 0, none⟩))).heap[c]? = w.heap[c]? := fun c hc nL np => (heap_setCell_other _ _ c _ nL).trans ((heap_setCell_other _ _ c _ (show c ≠ w.heap.size + 1 by omega)).trans (hk1 c hc np))
  obtain ⟨W2, hW2⟩ : ∃ W, W = ((W1.setCell ⟨w.heap.size + 1, 7, none⟩ (.pointer none)).setCell ⟨L, 4, none⟩ (.pointer (some ⟨w.heap.size + 1, 0, none⟩))) := ⟨_, rfl⟩
  rw [← hW2] at C2 hb2 hs2 hk2 HN4 HL4 HP4
  clear hW2
  have c2 : W2.cell? ⟨L, 2, none⟩ = some (.int .i64 cn) := by rw [hcn]; exact HL4.cell 2 _ rfl
  have f2 := HL4.frozen 2
  have b0 := HB0.cell 0 _ rfl; have b1 := HB0.cell 1 _ rfl; have b2 := HB0.cell 2 _ rfl; have b3 := HB0.cell 3 _ rfl; have b4 := HB0.cell 4 _ rfl; have b5 := HB0.cell 5 _ rfl
  have HN5 := hv_other HN4 (C := L) (by omega) 2 (.int .i64 (cn + 1))
  have HL5 := hv_set HL4 2 (.int .i64 (cn + 1))
  have HP5 := hv_other HP4 (C := L) pL 2 (.int .i64 (cn + 1))
  have hb3 : Below B w (W2.setCell ⟨L, 2, none⟩ (.int .i64 (cn + 1))) := hb2.setCell (p := ⟨L, 2, none⟩) (by show B ≤ L; omega) _
  have hkeep : ∀ c, c < w.heap.size → c ≠ L → c ≠ p → (W2.setCell ⟨L, 2, none⟩ (.int .i64 (cn + 1))).heap[c]? = w.heap[c]? := fun c hc nL np => (heap_setCell_other _ _ c _ nL).trans (hk2 c hc nL np)
  have FIN : Hid (DL (W2.setCell ⟨L, 2, none⟩ (.int .i64 (cn + 1))) B L u x ((xs0 ++ [(p, op)]) ++ (w.heap.size + 1, o) :: ([] : List (Nat × PieceM))) ∧ Below B w (W2.setCell ⟨L, 2, none⟩ (.int .i64 (cn + 1))) ∧ (W2.setCell ⟨L, 2, none⟩ (.int .i64 (cn + 1))).heap.size = w.heap.size + 2) := hide (by
    refine ⟨HD.out.insert (by omega) (by omega) ?_ ?_ ?_ ?_, hb3, by rw [World.size_setCell]; exact hs2⟩
    · rw [lstO_snoc]; exact HN5
    · have e := len_int (xs0 ++ [(p, op)]) ([] : List (Nat × PieceM)) (w.heap.size + 1, o)
      have e1 : fstO ((xs0 ++ [(p, op)]) ++ (w.heap.size + 1, o) :: ([] : List (Nat × PieceM))) none = fstO ((xs0 ++ [(p, op)]) ++ ([] : List (Nat × PieceM))) none := by rw [fstO_app, fstO_app, fstO_app, fstO_app]; rfl
      have e2 : lstO none ((xs0 ++ [(p, op)]) ++ (w.heap.size + 1, o) :: ([] : List (Nat × PieceM))) = some (w.heap.size + 1) := lstO_snoc _ _ _
      unfold plV
      rw [e, ← hcn, e1, e2]
      exact HL5
    · exact (seg_app xs0 [(p, op)] none _).2 ⟨sx0.frame (fun c hc => hkeep c (sx0.lt c hc) (fun e => (List.nodup_cons.1 hnd).1 (by rw [← e]; simp only [bks, List.map_append, List.mem_append]; exact .inl (.inl hc))) (fun e => NP.1 (by rw [← e]; exact hc))), HP5, trivial⟩
    · exact trivial)
  clear HD h sx sy hkeep hk2 hnd hlt hlo hb0 hb1 hb2 hb3 hs0 hs1 hs2 hL0 HN0 HB0 HL0 lL sx0 hp0 NP pL lp HP0 HN1 HN2 HN3 HN4 HN5 HL1 HL2 HL3 HL4 HL5 HP1 HP2 HP3 HP4 HP5
  have hcl : (((xs0 ++ [(p, op)]) ++ ([] : List (Nat × PieceM))).length : Int) ≤ 1048576 := by omega
  have hcl0 : 0 ≤ (((xs0 ++ [(p, op)]) ++ ([] : List (Nat × PieceM))).length : Int) := by omega
  rw [← hcn] at hcl hcl0
  clear hcn hl
  go_enter Try.func32, Try.ntmps32
  go_wp2_with fail
  refine C1.out.mono ?_
  rintro e w1 ⟨rfl, rfl⟩
  go_wp2_with fail
  refine C2.out.mono ?_
  rintro e w1 ⟨rfl, rfl⟩
  go_wp2_with fail
  go_end0
  exact ⟨rfl, FIN.out⟩
set_option maxHeartbeats 4000000 in
theorem put_walk_ss (B L : Nat) (u x : Int) (p : Nat) (op : PieceM) (xs0 : List (Nat × PieceM)) (q : Nat) (oq : PieceM) (ys0 : List (Nat × PieceM)) (o : PieceM) (w : World) (h : DL w B L u x ((xs0 ++ [(p, op)]) ++ ((q, oq) :: ys0))) (hB : B ≤ w.heap.size) (hl : ((xs0 ++ [(p, op)]) ++ ((q, oq) :: ys0)).length ≤ 1048576) :
    Calls Try.prog 32 #[.pointer (some ⟨L, 0, none⟩), .pointer (some ⟨p, 0, none⟩), pcV o, .pointer (some ⟨q, 0, none⟩)] w fun e w' => e = .returned (.tuple #[]) ∧ DL w' B L u x ((xs0 ++ [(p, op)]) ++ (w.heap.size + 1, o) :: ((q, oq) :: ys0)) ∧ Below B w w' ∧ w'.heap.size = w.heap.size + 2 := by
  have HD := hide h
  obtain ⟨cn, hcn⟩ : ∃ cn : Int, cn = (((xs0 ++ [(p, op)]) ++ ((q, oq) :: ys0)).length : Int) := ⟨_, rfl⟩
  have hL0 := h.head
  obtain ⟨sx, sy⟩ := (seg_app (xs0 ++ [(p, op)]) ((q, oq) :: ys0) none none).1 h.seg
  obtain ⟨sx0, hp0, _⟩ := (seg_app xs0 [(p, op)] none _).1 sx
  obtain ⟨hq0, sy0⟩ := sy
  have hnd := h.nd
  have hlt := h.lt
  have NP := nd_mid (b := p) (o := op) (xs := xs0) (ys := ((q, oq) :: ys0)) (L := L) (by simpa [List.append_assoc] using hnd)
  have pL := NP.2.2
  have NQ := nd_mid (b := q) (o := oq) (xs := (xs0 ++ [(p, op)])) (ys := ys0) (L := L) hnd
  have qL := NQ.2.2
  have pq : p ≠ q := fun e => NP.2.1 (by rw [e]; exact List.mem_cons_self)
  have lp := hlt p (by simp [bks])
  have lq := hlt q (by simp [bks])
  have lL := hlt L (by simp)
  have hlo : B ≤ p ∧ B ≤ q ∧ B ≤ L := ⟨h.lo p (by simp [bks]), h.lo q (by simp [bks]), h.lo L (by simp)⟩
  have hb0 : Below w.heap.size w ((w.alloc (.cells #[.int .i64 o.f0, .int .i64 o.f1, .int .i64 o.f2, .int .i64 o.f3, .bool o.f4, .bool o.f5] 36)).alloc (.cells #[.int .i64 o.f0, .int .i64 o.f1, .int .i64 o.f2, .int .i64 o.f3, .bool o.f4, .bool o.f5, .pointer none, .pointer none] lpT)) := ((Below.refl _ _).alloc (Nat.le_refl _) _).alloc (by simp) _
  have hs0 : ((w.alloc (.cells #[.int .i64 o.f0, .int .i64 o.f1, .int .i64 o.f2, .int .i64 o.f3, .bool o.f4, .bool o.f5] 36)).alloc (.cells #[.int .i64 o.f0, .int .i64 o.f1, .int .i64 o.f2, .int .i64 o.f3, .bool o.f4, .bool o.f5, .pointer none, .pointer none] lpT)).heap.size = w.heap.size + 2 := by rw [World.size_alloc, World.size_alloc]
  have HN0 : HoldV ((w.alloc (.cells #[.int .i64 o.f0, .int .i64 o.f1, .int .i64 o.f2, .int .i64 o.f3, .bool o.f4, .bool o.f5] 36)).alloc (.cells #[.int .i64 o.f0, .int .i64 o.f1, .int .i64 o.f2, .int .i64 o.f3, .bool o.f4, .bool o.f5, .pointer none, .pointer none] lpT)) (w.heap.size + 1) #[.int .i64 o.f0, .int .i64 o.f1, .int .i64 o.f2, .int .i64 o.f3, .bool o.f4, .bool o.f5, .pointer none, .pointer none] lpT := by have := hv_new (w.alloc (.cells #[.int .i64 o.f0, .int .i64 o.f1, .int .i64 o.f2, .int .i64 o.f3, .bool o.f4, .bool o.f5] 36)) #[.int .i64 o.f0, .int .i64 o.f1, .int .i64 o.f2, .int .i64 o.f3, .bool o.f4, .bool o.f5, .pointer none, .pointer none] lpT; rw [World.size_alloc] at this; exact this
  have HB0 : HoldV ((w.alloc (.cells #[.int .i64 o.f0, .int .i64 o.f1, .int .i64 o.f2, .int .i64 o.f3, .bool o.f4, .bool o.f5] 36)).alloc (.cells #[.int .i64 o.f0, .int .i64 o.f1, .int .i64 o.f2, .int .i64 o.f3, .bool o.f4, .bool o.f5, .pointer none, .pointer none] lpT)) w.heap.size #[.int .i64 o.f0, .int .i64 o.f1, .int .i64 o.f2, .int .i64 o.f3, .bool o.f4, .bool o.f5] 36 := (hv_new w _ _).next ((Below.refl _ _).alloc (Nat.le_refl _) _)
  have HL0 := hL0.next hb0
  have HP0 := hp0.next hb0
  have HQ0 := hq0.next hb0
  have HN1 := hv_other HN0 (C := p) (by omega) 7 (.pointer (some ⟨w.heap.size + 1, 0, none⟩))
  have HL1 := hv_other HL0 (C := p) (fun e => pL e.symm) 7 (.pointer (some ⟨w.heap.size + 1, 0, none⟩))
  have HP1 := hv_set HP0 7 (.pointer (some ⟨w.heap.size + 1, 0, none⟩))
  have HQ1 := hv_other HQ0 (C := p) (fun e => pq e.symm) 7 (.pointer (some ⟨w.heap.size + 1, 0, none⟩))
  have C1 := hide (link_walk_ss L p (w.heap.size + 1) _ _ _ (HP0.cell 7 _ rfl) (HP0.frozen 7) (HN1.cell 6 _ rfl) (HN1.frozen 6))
  have HN2 := hv_set HN1 6 (.pointer (some ⟨p, 0, none⟩))
  have HL2 := hv_other HL1 (C := (w.heap.size + 1)) (by omega) 6 (.pointer (some ⟨p, 0, none⟩))
  have HP2 := hv_other HP1 (C := (w.heap.size + 1)) (by omega) 6 (.pointer (some ⟨p, 0, none⟩))
  have HQ2 := hv_other HQ1 (C := (w.heap.size + 1)) (by omega) 6 (.pointer (some ⟨p, 0, none⟩))
  have hb1 : Below B w ((((w.alloc (.cells #[.int .i64 o.f0, .int .i64 o.f1, .int .i64 o.f2, .int .i64 o.f3, .bool o.f4, .bool o.f5] 36)).alloc (.cells #[.int .i64 o.f0, .int .i64 o.f1, .int .i64 o.f2, .int .i64 o.f3, .bool o.f4, .bool o.f5, .pointer none, .pointer none] lpT)).setCell ⟨p, 7, none⟩ (.pointer (some ⟨w.heap.size + 1, 0, none⟩))).setCell ⟨w.heap.size + 1, 6, none⟩ (.pointer (some ⟨p, 0, none⟩))) := ((hb0.mono hB).setCell (p := ⟨p, 7, none⟩) (by show B ≤ p; omega) _).setCell (p := ⟨w.heap.size + 1, 6, none⟩) (by show B ≤ w.heap.size + 1; omega) _
  have hs1 : ((((w.alloc (.cells #[.int .i64 o.f0, .int .i64 o.f1, .int .i64 o.f2, .int .i64 o.f3, .bool o.f4, .bool o.f5] 36)).alloc (.cells #[.int .i64 o.f0, .int .i64 o.f1, .int .i64 o.f2, .int .i64 o.f3, .bool o.f4, .bool o.f5, .pointer none, .pointer none] lpT)).setCell ⟨p, 7, none⟩ (.pointer (some ⟨w.heap.size + 1, 0, none⟩))).setCell ⟨w.heap.size + 1, 6, none⟩ (.pointer (some ⟨p, 0, none⟩))).heap.size = w.heap.size + 2 := by simp only [World.size_setCell]; exact hs0
  have hk1 : ∀ c, c < w.heap.size → c ≠ p → ((((w.alloc (.cells #[.int .i64 o.f0, .int .i64 o.f1, .int .i64 o.f2, .int .i64 o.f3, .bool o.f4, .bool o.f5] 36)).alloc (.cells #[.int .i64 o.f0, .int .i64 o.f1, .int .i64 o.f2, .int .i64 o.f3, .bool o.f4, .bool o.f5, .pointer none, .pointer none] lpT)).setCell ⟨p, 7, none⟩ (.pointer (some ⟨w.heap.size + 1, 0, none⟩))).setCell ⟨w.heap.size + 1, 6, none⟩ (.pointer (some ⟨p, 0, none⟩))).heap[c]? = w.heap[c]? := fun c hc h1 => (heap_setCell_other _ _ c _ (show c ≠ w.heap.size + 1 by omega)).trans ((heap_setCell_other _ _ c _ h1).trans (hb0.block c hc))
  obtain ⟨W1, hW1⟩ : ∃ W, W = ((((w.alloc (.cells #[.int .i64 o.f0, .int .i64 o.f1, .int .i64 o.f2, .int .i64 o.f3, .bool o.f4, .bool o.f5] 36)).alloc (.cells #[.int .i64 o.f0, .int .i64 o.f1, .int .i64 o.f2, .int .i64 o.f3, .bool o.f4, .bool o.f5, .pointer none, .pointer none] lpT)).setCell ⟨p, 7, none⟩ (.pointer (some ⟨w.heap.size + 1, 0, none⟩))).setCell ⟨w.heap.size + 1, 6, none⟩ (.pointer (some ⟨p, 0, none⟩))) := ⟨_, rfl⟩
  rw [← hW1] at C1 hb1 hs1 hk1 HN2 HL2 HP2 HQ2
  clear hW1
  have HN3 := hv_set HN2 7 (.pointer (some ⟨q, 0, none⟩))
  have HL3 := hv_other HL2 (C := (w.heap.size + 1)) (by omega) 7 (.pointer (some ⟨q, 0, none⟩))
  have HP3 := hv_other HP2 (C := (w.heap.size + 1)) (by omega) 7 (.pointer (some ⟨q, 0, none⟩))
  have HQ3 := hv_other HQ2 (C := (w.heap.size + 1)) (by omega) 7 (.pointer (some ⟨q, 0, none⟩))
  have C2 := hide (link_walk_ss L (w.heap.size + 1) q _ _ W1 (HN2.cell 7 _ rfl) (HN2.frozen 7) (HQ3.cell 6 _ rfl) (HQ3.frozen 6))
  have HN4 := hv_other HN3 (C := q) (by omega) 6 (.pointer (some ⟨w.heap.size + 1, 0, none⟩))
  have HL4 := hv_other HL3 (C := q) (fun e => qL e.symm) 6 (.pointer (some ⟨w.heap.size + 1, 0, none⟩))
  have HP4 := hv_other HP3 (C := q) pq 6 (.pointer (some ⟨w.heap.size + 1, 0, none⟩))
  have HQ4 := hv_set HQ3 6 (.pointer (some ⟨w.heap.size + 1, 0, none⟩))
  have hb2 : Below B w ((W1.setCell ⟨w.heap.size + 1, 7, none⟩ (.pointer (some ⟨q, 0, none⟩))).setCell ⟨q, 6, none⟩ (.pointer (some ⟨w.heap.size + 1, 0, none⟩))) := (hb1.setCell (p := ⟨w.heap.size + 1, 7, none⟩) (by show B ≤ w.heap.size + 1; omega) _).setCell (p := ⟨q, 6, none⟩) (by show B ≤ q; omega) _
  have hs2 : ((W1.setCell ⟨w.heap.size + 1, 7, none⟩ (.pointer (some ⟨q, 0, none⟩))).setCell ⟨q, 6, none⟩ (.pointer (some ⟨w.heap.size + 1, 0, none⟩))).heap.size = w.heap.size + 2 := by simp only [World.size_setCell]; exact hs1
  have hk2 : ∀ c, c < w.heap.size → c ≠ L → c ≠ p → c ≠ q → ((W1.setCell ⟨w.heap.size + 1, 7, none⟩ (.pointer (some ⟨q, 0, none⟩))).setCell ⟨q, 6, none⟩ (.pointer (some ⟨w.heap.size + 1, 0, none⟩))).heap[c]? = w.heap[c]? := fun c hc nL np nq => (heap_setCell_other _ _ c _ nq).trans ((heap_setCell_other _ _ c _ (show c ≠ w.heap.size + 1 by omega)).trans (hk1 c hc np))
  obtain ⟨W2, hW2⟩ : ∃ W, W = ((W1.setCell ⟨w.heap.size + 1, 7, none⟩ (.pointer (some ⟨q, 0, none⟩))).setCell ⟨q, 6, none⟩ (.pointer (some ⟨w.heap.size + 1, 0, none⟩))) := ⟨_, rfl⟩
  rw [← hW2] at C2 hb2 hs2 hk2 HN4 HL4 HP4 HQ4
  clear hW2
  have c2 : W2.cell? ⟨L, 2, none⟩ = some (.int .i64 cn) := by rw [hcn]; exact HL4.cell 2 _ rfl
  have f2 := HL4.frozen 2
  have b0 := HB0.cell 0 _ rfl; have b1 := HB0.cell 1 _ rfl; have b2 := HB0.cell 2 _ rfl; have b3 := HB0.cell 3 _ rfl; have b4 := HB0.cell 4 _ rfl; have b5 := HB0.cell 5 _ rfl
  have HN5 := hv_other HN4 (C := L) (by omega) 2 (.int .i64 (cn + 1))
  have HL5 := hv_set HL4 2 (.int .i64 (cn + 1))
  have HP5 := hv_other HP4 (C := L) pL 2 (.int .i64 (cn + 1))
  have HQ5 := hv_other HQ4 (C := L) qL 2 (.int .i64 (cn + 1))
  have hb3 : Below B w (W2.setCell ⟨L, 2, none⟩ (.int .i64 (cn + 1))) := hb2.setCell (p := ⟨L, 2, none⟩) (by show B ≤ L; omega) _
  have hkeep : ∀ c, c < w.heap.size → c ≠ L → c ≠ p → c ≠ q → (W2.setCell ⟨L, 2, none⟩ (.int .i64 (cn + 1))).heap[c]? = w.heap[c]? := fun c hc nL np nq => (heap_setCell_other _ _ c _ nL).trans (hk2 c hc nL np nq)
  have FIN : Hid (DL (W2.setCell ⟨L, 2, none⟩ (.int .i64 (cn + 1))) B L u x ((xs0 ++ [(p, op)]) ++ (w.heap.size + 1, o) :: ((q, oq) :: ys0)) ∧ Below B w (W2.setCell ⟨L, 2, none⟩ (.int .i64 (cn + 1))) ∧ (W2.setCell ⟨L, 2, none⟩ (.int .i64 (cn + 1))).heap.size = w.heap.size + 2) := hide (by
    refine ⟨HD.out.insert (by omega) (by omega) ?_ ?_ ?_ ?_, hb3, by rw [World.size_setCell]; exact hs2⟩
    · rw [lstO_snoc]; exact HN5
    · have e := len_int (xs0 ++ [(p, op)]) ((q, oq) :: ys0) (w.heap.size + 1, o)
      have e1 : fstO ((xs0 ++ [(p, op)]) ++ (w.heap.size + 1, o) :: ((q, oq) :: ys0)) none = fstO ((xs0 ++ [(p, op)]) ++ ((q, oq) :: ys0)) none := by rw [fstO_app, fstO_app, fstO_app, fstO_app]; rfl
      have e2 : lstO none ((xs0 ++ [(p, op)]) ++ (w.heap.size + 1, o) :: ((q, oq) :: ys0)) = lstO none ((xs0 ++ [(p, op)]) ++ ((q, oq) :: ys0)) := lstO_mid (xs0 ++ [(p, op)]) ys0 _ _ none
      unfold plV
      rw [e, ← hcn, e1, e2]
      exact HL5
    · exact (seg_app xs0 [(p, op)] none _).2 ⟨sx0.frame (fun c hc => hkeep c (sx0.lt c hc) (fun e => (List.nodup_cons.1 hnd).1 (by rw [← e]; simp only [bks, List.map_append, List.mem_append]; exact .inl (.inl hc))) (fun e => NP.1 (by rw [← e]; exact hc)) (fun e => NQ.1 (by rw [← e]; simp only [bks, List.map_append, List.mem_append]; exact .inl hc))), HP5, trivial⟩
    · exact ⟨HQ5, sy0.frame (fun c hc => hkeep c (sy0.lt c hc) (fun e => (List.nodup_cons.1 hnd).1 (by rw [← e]; simp only [bks, List.map_append, List.map_cons, List.mem_append, List.mem_cons]; exact .inr (.inr hc))) (fun e => NP.2.1 (by rw [← e]; exact List.mem_cons_of_mem _ hc)) (fun e => NQ.2.1 (by rw [← e]; exact hc)))⟩)
  clear HD h sx hkeep hk2 hnd hlt hlo hb0 hb1 hb2 hb3 hs0 hs1 hs2 hL0 HN0 HB0 HL0 lL sx0 hp0 NP pL lp HP0 hq0 sy0 NQ qL lq HQ0 pq HN1 HN2 HN3 HN4 HN5 HL1 HL2 HL3 HL4 HL5 HP1 HP2 HP3 HP4 HP5 HQ1 HQ2 HQ3 HQ4 HQ5
  have hcl : (((xs0 ++ [(p, op)]) ++ ((q, oq) :: ys0)).length : Int) ≤ 1048576 := by omega
  have hcl0 : 0 ≤ (((xs0 ++ [(p, op)]) ++ ((q, oq) :: ys0)).length : Int) := by omega
  rw [← hcn] at hcl hcl0
  clear hcn hl
  go_enter Try.func32, Try.ntmps32
  go_wp2_with fail
  refine C1.out.mono ?_
  rintro e w1 ⟨rfl, rfl⟩
  go_wp2_with fail
  refine C2.out.mono ?_
  rintro e w1 ⟨rfl, rfl⟩
  go_wp2_with fail
  go_end0
  exact ⟨rfl, FIN.out⟩
/-- A new piece is put between two parts of a list. -/
theorem put_walk (B L : Nat) (u x : Int) (xs ys : List (Nat × PieceM)) (o : PieceM) (w : World) (h : DL w B L u x (xs ++ ys)) (hB : B ≤ w.heap.size) (hl : (xs ++ ys).length ≤ 1048576) :
    Calls Try.prog 32 #[.pointer (some ⟨L, 0, none⟩), ptO (lstO none xs), pcV o, ptO (fstO ys none)] w fun e w' => e = .returned (.tuple #[]) ∧ DL w' B L u x (xs ++ (w.heap.size + 1, o) :: ys) ∧ Below B w w' ∧ w'.heap.size = w.heap.size + 2 := by
  rcases List.eq_nil_or_concat xs with rfl | ⟨xs0, ⟨p, op⟩, rfl⟩
  · cases ys with
    | nil => exact put_walk_nn B L u x o w h hB hl
    | cons q ys0 => exact put_walk_ns B L u x q.1 q.2 ys0 o w h hB hl
  · rw [List.concat_eq_append] at h hl ⊢
    rw [lstO_snoc]
    cases ys with
    | nil => exact put_walk_sn B L u x p op xs0 o w h hB hl
    | cons q ys0 => exact put_walk_ss B L u x p op xs0 q.1 q.2 ys0 o w h hB hl
end Go.Proofs.Ytfffkgladjphoaa
