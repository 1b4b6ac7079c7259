/-
Contracts of functions of this seat.
-/
import Derived.Test.YtcnfnimgpiaamaaDoorRows
import Derived.WalkKit
import Derived.ProofKit
import Derived.OpenShut
import Derived.Test.YtcnfnimgpiaamaaDoorStb
import Derived.Lib.QuietBelow
import Derived.BigQuiet
import Derived.ArgAppend
import Derived.Laws.OwnMore
namespace Go.Proofs.YtcnfnimgpiaamaaDoor
open Go.ChangeShapes Go.WideShapes Go.ChangeAt Go.RowKit
set_option linter.unusedVariables false
set_option maxRecDepth 100000
theorem box_facts (w : World) (x y : Value) (t : Nat) : Below w.heap.size w (w.alloc (.cells #[x, y] t)) ∧ (w.alloc (.cells #[x, y] t)).cell? ⟨w.heap.size, 0, none⟩ = some x ∧ (w.alloc (.cells #[x, y] t)).cell? ⟨w.heap.size, 1, none⟩ = some y := by
  refine ⟨(Below.refl _ _).alloc (Nat.le_refl _) _, ?_, ?_⟩
  · exact cell_of_row _ w.heap.size 0 #[x, y] t (0, 0) (heap_alloc_new w _)
  · exact cell_of_row _ w.heap.size 1 #[x, y] t (0, 0) (heap_alloc_new w _)
theorem below_then {w W : World} (h : Below w.heap.size w W) (d : Nat) (os : Array Obj) : Below w.heap.size w (Go.Sort.grow (redrawn W d) os) :=
  h.trans ((below_regrown W d os).mono h.size)

/-- Cells of numbers. -/
def ival (zs : List Int) : List Value := zs.map (Value.int .i64)
theorem ival_len (zs : List Int) : (ival zs).length = zs.length := by unfold ival; rw [List.length_map]
theorem ival_get (zs : List Int) (j : Nat) (h : j < zs.length) : (ival zs)[j]? = some (.int .i64 (zs.getD j 0)) := by
  unfold ival; rw [List.getElem?_map, List.getElem?_eq_getElem h, List.getD_eq_getElem?_getD, List.getElem?_eq_getElem h]; rfl
theorem ival_set (zs : List Int) (i : Nat) (z : Int) : ival (zs.set i z) = (ival zs).set i (.int .i64 z) := by unfold ival; rw [List.map_set]
theorem ival_app (xs ys : List Int) : ival (xs ++ ys) = ival xs ++ ival ys := by unfold ival; rw [List.map_append]
theorem ival_one (zs : List Int) : ∀ u ∈ ival zs, u.oneCell' = true := by
  intro u hu
  obtain ⟨z, _, rfl⟩ := List.mem_map.1 hu
  rfl
/-- The numbers that lie from a on. -/
def ArrI (w : World) (a : Option Addr) (zs : List Int) : Prop :=
  ∀ j, j < zs.length → ∃ b off, a = some ⟨b, off, none⟩ ∧ b < w.heap.size ∧ w.cell? ⟨b, off + j, none⟩ = some (.int .i64 (zs.getD j 0))
theorem ArrI.below {B : Nat} {w w' : World} {a : Option Addr} {zs : List Int} (h : ArrI w a zs) (hb : Below B w w') (hB : w.heap.size ≤ B) : ArrI w' a zs := by
  intro j hj
  obtain ⟨b, off, ha, hlt, hc⟩ := h j hj
  exact ⟨b, off, ha, by have := hb.size; omega, by rw [hb.cell (p := ⟨b, off + j, none⟩) (by show b < B; omega)]; exact hc⟩
/-- A slice of n elements of K cells each in a block of this call's own (from block B on), from some cell of it on. -/
def ownsAt (w : World) (B e K : Nat) (v : Value) (n : Nat) (xs : List Value) : Prop :=
  xs.length = n * K ∧ ((v = .slice none 0 0 ∧ n = 0) ∨ ∃ g off cap cur, v = .slice (some ⟨g, off, none⟩) n cap ∧ B ≤ g ∧ w.heap[g]? = some (.cells cur e (0, 0)) ∧ n ≤ cap ∧ cap ≤ maxLen ∧ off + cap * K ≤ cur.size ∧ (cur.toList.drop off).take (n * K) = xs)
theorem ownsAt.of_row {w : World} {B e K n : Nat} {v : Value} {xs : List Value} (h : w.ownsRow B e K v n xs) : ownsAt w B e K v n xs := by
  refine ⟨h.1, ?_⟩
  rcases h.2 with h0 | ⟨g, cap, cur, hv, hB, hg, hc, hm, hs, ht⟩
  · exact .inl h0
  · exact .inr ⟨g, 0, cap, cur, hv, hB, hg, hc, hm, by omega, by rw [List.drop_zero]; exact ht⟩
theorem ownsAt.lt {w : World} {B e K n : Nat} {v : Value} {xs : List Value} (h : ownsAt w B e K v n xs) : ∀ k, v.ownBlock = some k → B ≤ k ∧ k < w.heap.size := by
  intro k hk
  rcases h.2 with ⟨rfl, _⟩ | ⟨g, off, cap, cur, rfl, hB, hg, _⟩
  · simp [Value.ownBlock] at hk
  · simp [Value.ownBlock] at hk
    subst hk
    exact ⟨hB, (Array.getElem?_eq_some_iff.1 hg).1⟩
theorem ownsAt.frame {w w' : World} {B e K n : Nat} {v : Value} {xs : List Value} (h : ownsAt w B e K v n xs) (hk : ∀ b, v.ownBlock = some b → w'.heap[b]? = w.heap[b]?) : ownsAt w' B e K v n xs := by
  refine ⟨h.1, ?_⟩
  rcases h.2 with h0 | ⟨g, off, cap, cur, hv, hB, hg, hrest⟩
  · exact .inl h0
  · exact .inr ⟨g, off, cap, cur, hv, hB, by rw [hk g (by rw [hv]; rfl)]; exact hg, hrest⟩
theorem ownsAt.mono {w : World} {B C e K n : Nat} {v : Value} {xs : List Value} (h : ownsAt w B e K v n xs) (hC : C ≤ B) : ownsAt w C e K v n xs := by
  refine ⟨h.1, ?_⟩
  rcases h.2 with h0 | ⟨g, off, cap, cur, hv, hB, hrest⟩
  · exact .inl h0
  · exact .inr ⟨g, off, cap, cur, hv, by omega, hrest⟩
theorem ownsAt.cellAt {w : World} {B e K n g off cap : Nat} {xs : List Value} (h : ownsAt w B e K (.slice (some ⟨g, off, none⟩) n cap) n xs) (j : Nat) (hj : j < n * K) : w.cell? ⟨g, off + j, none⟩ = xs[j]? := by
  rcases h.2 with ⟨h0, _⟩ | ⟨g', off', cap', cur, hv, _, hg, _, _, _, ht⟩
  · cases h0
  · cases hv
    rw [cell_of_row w g (off + j) cur e (0, 0) hg, ← ht, List.getElem?_take, if_pos hj, List.getElem?_drop]
    simp
theorem ownsAt.frozenAt {w : World} {B e K n g off cap : Nat} {xs : List Value} (h : ownsAt w B e K (.slice (some ⟨g, off, none⟩) n cap) n xs) (j : Nat) : w.frozen? ⟨g, j, none⟩ = false := by
  rcases h.2 with ⟨h0, _⟩ | ⟨g', off', cap', cur, hv, _, hg, _⟩
  · cases h0
  · cases hv
    exact frozen_of_row w g j _ _ hg
theorem ownsAt.stored {w : World} {B e K n g off cap : Nat} {xs : List Value} (h : ownsAt w B e K (.slice (some ⟨g, off, none⟩) n cap) n xs) (j : Nat) (u : Value) : ownsAt (w.setCell ⟨g, off + j, none⟩ u) B e K (.slice (some ⟨g, off, none⟩) n cap) n (xs.set j u) ∧ w.grownBy (w.setCell ⟨g, off + j, none⟩ u) (some g) := by
  refine ⟨⟨by rw [List.length_set]; exact h.1, ?_⟩, ⟨rfl, rfl, rfl, by simp, fun k _ hk => heap_setCell_other w ⟨g, off + j, none⟩ k u (fun e => hk (by rw [e]))⟩⟩
  rcases h.2 with ⟨h0, _⟩ | ⟨g', off', cap', cur, hv, hB, hg, hc, hm, hs, ht⟩
  · cases h0
  · cases hv
    refine .inr ⟨g, off, cap, _, rfl, hB, heap_setCell_same w g (off + j) _ _ u hg, hc, hm, by simpa using hs, ?_⟩
    rw [Array.toList_setIfInBounds, ← List.set_drop, List.take_set, ht]
/-- A slice of n elements of k numbers each, in memory of this call's own, from block B on. -/
def OwnI (w : World) (B e k : Nat) (v : Value) (n : Nat) (zs : List Int) : Prop := ownsAt w B e k v n (ival zs)
theorem OwnI.len {w : World} {B e k n : Nat} {v : Value} {zs : List Int} (h : OwnI w B e k v n zs) : zs.length = n * k := by
  have := h.1
  rw [ival_len] at this
  exact this
theorem OwnI.form {w : World} {B e k n : Nat} {v : Value} {zs : List Int} (h : OwnI w B e k v n zs) : (v = .slice none 0 0 ∧ n = 0) ∨ ∃ g off cap, v = .slice (some ⟨g, off, none⟩) n cap ∧ B ≤ g ∧ g < w.heap.size ∧ n ≤ cap := by
  rcases h.2 with ⟨hv, hn⟩ | ⟨g, off, cap, cur, hv, hB, hg, hc, _⟩
  · exact .inl ⟨hv, hn⟩
  · exact .inr ⟨g, off, cap, hv, hB, (Array.getElem?_eq_some_iff.1 hg).1, hc⟩
theorem OwnI.arr {w : World} {B e k n : Nat} {v : Value} {zs : List Int} (h : OwnI w B e k v n zs) : ∃ a cap, v = .slice a n cap ∧ ArrI w a zs ∧ n ≤ cap := by
  rcases h.form with ⟨rfl, rfl⟩ | ⟨g, off, cap, rfl, hB, hlt, hc⟩
  · have hz : zs = [] := List.length_eq_zero_iff.1 (by rw [h.len]; omega)
    subst hz
    exact ⟨none, 0, rfl, fun j hj => by simp at hj, Nat.le_refl _⟩
  · refine ⟨_, cap, rfl, fun j hj => ⟨g, off, rfl, hlt, ?_⟩, hc⟩
    rw [ownsAt.cellAt (show ownsAt w B e k (.slice (some ⟨g, off, none⟩) n cap) n (ival zs) from h) j (by rw [← h.len]; exact hj), ival_get zs j hj]
theorem OwnI.store {w : World} {B e k n g off cap : Nat} {zs : List Int} (h : OwnI w B e k (.slice (some ⟨g, off, none⟩) n cap) n zs) (i : Nat) (z : Int) : OwnI (w.setCell ⟨g, off + i, none⟩ (.int .i64 z)) B e k (.slice (some ⟨g, off, none⟩) n cap) n (zs.set i z) ∧ w.grownBy (w.setCell ⟨g, off + i, none⟩ (.int .i64 z)) (some g) := by
  have hs := ownsAt.stored (show ownsAt w B e k (.slice (some ⟨g, off, none⟩) n cap) n (ival zs) from h) i (.int .i64 z)
  refine ⟨?_, hs.2⟩
  unfold OwnI
  rw [ival_set]
  exact hs.1
theorem OwnI.next {w w' : World} {B e k n : Nat} {v : Value} {zs : List Int} (h : OwnI w B e k v n zs) (hb : Below w.heap.size w w') : OwnI w' B e k v n zs := ownsAt.frame h (fun b hv => hb.block b (ownsAt.lt h b hv).2)
theorem OwnI.below {w w' : World} {B C e k n : Nat} {v : Value} {zs : List Int} (h : OwnI w B e k v n zs) (hb : Below C w w') (hC : ∀ g, v.ownBlock = some g → g < C) : OwnI w' B e k v n zs := ownsAt.frame h (fun b hv => hb.block b (hC b hv))
theorem OwnI.kept {w w' : World} {B e k n : Nat} {v : Value} {zs : List Int} {row : Option Nat} (h : OwnI w B e k v n zs) (hg : w.grownBy w' row) (hne : v.ownBlock = none ∨ v.ownBlock ≠ row) : OwnI w' B e k v n zs :=
  ownsAt.frame h (fun b hv => hg.block b (ownsAt.lt h b hv).2 (by
    rcases hne with h0 | h0
    · rw [h0] at hv; cases hv
    · rw [← hv]; exact h0))
theorem OwnI.mono {w : World} {B C e k n : Nat} {v : Value} {zs : List Int} (h : OwnI w B e k v n zs) (hC : C ≤ B) : OwnI w C e k v n zs := ownsAt.mono h hC
theorem OwnI.nil (w : World) (B e k : Nat) : OwnI w B e k (.slice none 0 0) 0 [] := ownsAt.of_row (World.ownsRow_nil w B e k)
/-- The marks: k and on. -/
def mksI (k n : Nat) : List Int := (List.range n).map (fun i : Nat => (k : Int) + (i : Int))
theorem mksI_len (k n : Nat) : (mksI k n).length = n := by unfold mksI; simp
theorem mksI_succ (k n : Nat) : mksI k (n + 1) = mksI k n ++ [(k : Int) + (n : Int)] := by unfold mksI; rw [List.range_succ, List.map_append]; rfl
theorem mksI_get (k n i : Nat) (h : i < n) : (mksI k n).getD i 0 = (k : Int) + (i : Int) := by
  unfold mksI
  rw [List.getD_eq_getElem?_getD, List.getElem?_map, List.getElem?_range h]; rfl
def mkdI (k : Nat) (zs : List Int) (i : Nat) : List Int := mksI k i ++ zs.drop i
theorem mkdI_len (k : Nat) (zs : List Int) (i : Nat) (h : i ≤ zs.length) : (mkdI k zs i).length = zs.length := by unfold mkdI; rw [List.length_append, mksI_len, List.length_drop]; omega
theorem mkdI_set (k : Nat) (zs : List Int) (i : Nat) (h : i < zs.length) : (mkdI k zs i).set i ((k : Int) + (i : Int)) = mkdI k zs (i + 1) := by
  unfold mkdI
  rw [List.set_append_right _ _ (by rw [mksI_len]; exact Nat.le_refl _), mksI_len, Nat.sub_self, mksI_succ, List.append_assoc, List.drop_eq_getElem_cons h, List.set_cons_zero]
  rfl
theorem mkdI_end (k : Nat) (zs : List Int) (n : Nat) (h : zs.length = n) : mkdI k zs n = mksI k n := by subst h; unfold mkdI; rw [List.drop_length, List.append_nil]
theorem mkdI_zero (k : Nat) (zs : List Int) : mkdI k zs 0 = zs := by unfold mkdI mksI; simp
theorem OwnI.cell {w : World} {B e k n g off cap : Nat} {zs : List Int} (h : OwnI w B e k (.slice (some ⟨g, off, none⟩) n cap) n zs) (j : Nat) (hj : j < zs.length) : w.cell? ⟨g, off + j, none⟩ = some (.int .i64 (zs.getD j 0)) := by
  rw [ownsAt.cellAt (show ownsAt w B e k (.slice (some ⟨g, off, none⟩) n cap) n (ival zs) from h) j (by rw [← h.len]; exact hj), ival_get zs j hj]
theorem OwnI.frozen {w : World} {B e k n g off cap : Nat} {zs : List Int} (h : OwnI w B e k (.slice (some ⟨g, off, none⟩) n cap) n zs) (j : Nat) : w.frozen? ⟨g, j, none⟩ = false := ownsAt.frozenAt (show ownsAt w B e k (.slice (some ⟨g, off, none⟩) n cap) n (ival zs) from h) j
theorem OwnI.mark {w : World} {B e K n g off cap k j : Nat} {zs : List Int} {z : Int} (h : OwnI w B e K (.slice (some ⟨g, off, none⟩) n cap) n (mkdI k zs j)) (hj : j < zs.length) (hz : z = (k : Int) + (j : Int)) : OwnI (w.setCell ⟨g, off + j, none⟩ (.int .i64 z)) B e K (.slice (some ⟨g, off, none⟩) n cap) n (mkdI k zs (j + 1)) ∧ w.grownBy (w.setCell ⟨g, off + j, none⟩ (.int .i64 z)) (some g) := by
  have hs := h.store j z
  rw [hz] at hs ⊢
  rw [mkdI_set k zs j hj] at hs
  exact hs
/-- A row that is being filled: its first m cells are known. -/
def Filled (w : World) (B e K : Nat) (v : Value) (n : Nat) (zs : List Int) (m : Nat) : Prop := ∃ xs, w.ownsRow B e K v n xs ∧ ∀ q, q < m → xs[q]? = some (.int .i64 (zs.getD q 0))
theorem Filled.next {w w' : World} {B e K n m : Nat} {v : Value} {zs : List Int} (h : Filled w B e K v n zs m) (hb : Below w.heap.size w w') : Filled w' B e K v n zs m := by
  obtain ⟨xs, ho, hx⟩ := h
  refine ⟨xs, ⟨ho.1, ?_⟩, hx⟩
  rcases ho.2 with h0 | ⟨g, cap, cur, hv, hB, hg, hrest⟩
  · exact .inl h0
  · exact .inr ⟨g, cap, cur, hv, hB, by rw [hb.block g (Array.getElem?_eq_some_iff.1 hg).1]; exact hg, hrest⟩
theorem Filled.old {w : World} {B e K n m g cap : Nat} {zs : List Int} (h : Filled w B e K (.slice (some ⟨g, 0, none⟩) n cap) n zs m) (q : Nat) (hq : q < n * K) : ∃ o, w.cell? ⟨g, q, none⟩ = some o := by
  obtain ⟨xs, ho, hx⟩ := h
  exact ⟨_, by rw [ho.cellAt q hq]; exact List.getElem?_eq_getElem (by rw [ho.1]; exact hq)⟩
theorem Filled.frozen {w : World} {B e K n m g cap : Nat} {zs : List Int} (h : Filled w B e K (.slice (some ⟨g, 0, none⟩) n cap) n zs m) (q : Nat) : w.frozen? ⟨g, q, none⟩ = false := by
  obtain ⟨xs, ho, hx⟩ := h
  exact ho.frozenAt q
theorem Filled.step {w : World} {B e K n m g cap : Nat} {zs : List Int} {z : Int} (h : Filled w B e K (.slice (some ⟨g, 0, none⟩) n cap) n zs m) (hm : m < n * K) (hz : z = zs.getD m 0) : Filled (w.setCell ⟨g, m, none⟩ (.int .i64 z)) B e K (.slice (some ⟨g, 0, none⟩) n cap) n zs (m + 1) := by
  obtain ⟨xs, ho, hx⟩ := h
  refine ⟨xs.set m (.int .i64 z), (ho.stored m _).1, fun q hq => ?_⟩
  by_cases e : q = m
  · subst e; rw [hz]; exact List.getElem?_set_self (by rw [ho.1]; exact hm)
  · rw [List.getElem?_set_ne (fun h => e h.symm)]; exact hx q (by omega)
theorem Filled.done {w : World} {B e K n : Nat} {v : Value} {zs : List Int} (h : Filled w B e K v n zs (n * K)) (hn : zs.length = n * K) : OwnI w B e K v n zs := by
  obtain ⟨xs, ho, hx⟩ := h
  have : xs = ival zs := by
    apply List.ext_getElem?
    intro q
    by_cases hq : q < zs.length
    · rw [hx q (by omega), ival_get zs q hq]
    · rw [List.getElem?_eq_none (by rw [ho.1]; omega), List.getElem?_eq_none (by rw [ival_len]; omega)]
  unfold OwnI
  rw [← this]
  exact ownsAt.of_row ho

/-- What lies in a cell: a plain value, or a slice of this call's own with n elements of K cells each. -/
inductive D where
  | c (v : Value)
  | s (e K n : Nat) (ds : List D)
mutual
def Holds (w : World) (B : Nat) : D → Value → List Nat → Prop
  | .c u, v, bs => v = u ∧ bs = []
  | .s e K n ds, v, bs => ∃ xs fs, ownsAt w B e K v n xs ∧ HoldsL w B ds xs fs ∧ bs = v.ownBlock.toList ++ fs
def HoldsL (w : World) (B : Nat) : List D → List Value → List Nat → Prop
  | [], xs, bs => xs = [] ∧ bs = []
  | d :: ds, xs, bs => ∃ x xt b1 b2, xs = x :: xt ∧ bs = b1 ++ b2 ∧ Holds w B d x b1 ∧ HoldsL w B ds xt b2
 end
theorem row_frame {w w' : World} {B e K n : Nat} {v : Value} {xs : List Value} (h : ownsAt w B e K v n xs) (hk : ∀ b, v.ownBlock = some b → w'.heap[b]? = w.heap[b]?) : ownsAt w' B e K v n xs := h.frame hk
mutual
theorem Holds.frame {w w' : World} {B : Nat} : ∀ (d : D) (v : Value) (bs : List Nat), Holds w B d v bs → (∀ b ∈ bs, w'.heap[b]? = w.heap[b]?) → Holds w' B d v bs
  | .c u, v, bs, h, _ => by unfold Holds at h ⊢; exact h
  | .s e K n ds, v, bs, h, hk => by
    unfold Holds at h ⊢
    obtain ⟨xs, fs, ho, hl, hb⟩ := h
    subst hb
    exact ⟨xs, fs, row_frame ho (fun b hb => hk b (List.mem_append.2 (.inl (by rw [hb]; simp)))), HoldsL.frame ds xs fs hl (fun b hb => hk b (List.mem_append.2 (.inr hb))), rfl⟩
theorem HoldsL.frame {w w' : World} {B : Nat} : ∀ (ds : List D) (xs : List Value) (bs : List Nat), HoldsL w B ds xs bs → (∀ b ∈ bs, w'.heap[b]? = w.heap[b]?) → HoldsL w' B ds xs bs
  | [], xs, bs, h, _ => by unfold HoldsL at h ⊢; exact h
  | d :: ds, xs, bs, h, hk => by
    unfold HoldsL at h ⊢
    obtain ⟨x, xt, b1, b2, hx, hb, h1, h2⟩ := h
    subst hb
    exact ⟨x, xt, b1, b2, hx, rfl, Holds.frame d x b1 h1 (fun b hb => hk b (List.mem_append.2 (.inl hb))), HoldsL.frame ds xt b2 h2 (fun b hb => hk b (List.mem_append.2 (.inr hb)))⟩
 end
mutual
theorem Holds.lt {w : World} {B : Nat} : ∀ (d : D) (v : Value) (bs : List Nat), Holds w B d v bs → ∀ b ∈ bs, B ≤ b ∧ b < w.heap.size
  | .c u, v, bs, h => by unfold Holds at h; intro b hb; rw [h.2] at hb; cases hb
  | .s e K n ds, v, bs, h => by
    unfold Holds at h
    obtain ⟨xs, fs, ho, hl, hb⟩ := h
    subst hb
    intro b hb
    rcases List.mem_append.1 hb with hb | hb
    · exact ho.lt b (by simpa using hb)
    · exact HoldsL.lt ds xs fs hl b hb
theorem HoldsL.lt {w : World} {B : Nat} : ∀ (ds : List D) (xs : List Value) (bs : List Nat), HoldsL w B ds xs bs → ∀ b ∈ bs, B ≤ b ∧ b < w.heap.size
  | [], xs, bs, h => by unfold HoldsL at h; intro b hb; rw [h.2] at hb; cases hb
  | d :: ds, xs, bs, h => by
    unfold HoldsL at h
    obtain ⟨x, xt, b1, b2, hx, hb, h1, h2⟩ := h
    subst hb
    intro b hb
    rcases List.mem_append.1 hb with hb | hb
    · exact Holds.lt d x b1 h1 b hb
    · exact HoldsL.lt ds xt b2 h2 b hb
 end
theorem HoldsL.len {w : World} {B : Nat} : ∀ (ds : List D) (xs : List Value) (bs : List Nat), HoldsL w B ds xs bs → xs.length = ds.length
  | [], xs, bs, h => by unfold HoldsL at h; rw [h.1]; rfl
  | d :: ds, xs, bs, h => by
    unfold HoldsL at h
    obtain ⟨x, xt, b1, b2, hx, hb, h1, h2⟩ := h
    subst hx
    simp [HoldsL.len ds xt b2 h2]
theorem HoldsL.split {w : World} {B : Nat} : ∀ (d1 d2 : List D) (xs : List Value) (bs : List Nat), HoldsL w B (d1 ++ d2) xs bs → ∃ x1 x2 b1 b2, xs = x1 ++ x2 ∧ bs = b1 ++ b2 ∧ HoldsL w B d1 x1 b1 ∧ HoldsL w B d2 x2 b2
  | [], d2, xs, bs, h => ⟨[], xs, [], bs, rfl, rfl, by unfold HoldsL; exact ⟨rfl, rfl⟩, h⟩
  | d :: d1, d2, xs, bs, h => by
    have h' : HoldsL w B (d :: (d1 ++ d2)) xs bs := h
    unfold HoldsL at h'
    obtain ⟨x, xt, b1, b2, hx, hb, h1, h2⟩ := h'
    obtain ⟨y1, y2, c1, c2, e1, e2, k1, k2⟩ := HoldsL.split d1 d2 xt b2 h2
    subst hx hb e1 e2
    refine ⟨x :: y1, y2, b1 ++ c1, c2, rfl, by rw [List.append_assoc], ?_, k2⟩
    unfold HoldsL
    exact ⟨x, y1, b1, c1, rfl, rfl, h1, k1⟩
theorem HoldsL.join {w : World} {B : Nat} : ∀ (d1 d2 : List D) (x1 x2 : List Value) (b1 b2 : List Nat), HoldsL w B d1 x1 b1 → HoldsL w B d2 x2 b2 → HoldsL w B (d1 ++ d2) (x1 ++ x2) (b1 ++ b2)
  | [], d2, x1, x2, b1, b2, h, k => by unfold HoldsL at h; rw [h.1, h.2]; exact k
  | d :: d1, d2, x1, x2, b1, b2, h, k => by
    unfold HoldsL at h
    obtain ⟨x, xt, c1, c2, hx, hb, h1, h2⟩ := h
    subst hx hb
    show HoldsL w B (d :: (d1 ++ d2)) (x :: (xt ++ x2)) (c1 ++ c2 ++ b2)
    unfold HoldsL
    exact ⟨x, xt ++ x2, c1, c2 ++ b2, rfl, by rw [List.append_assoc], h1, HoldsL.join d1 d2 xt x2 c2 b2 h2 k⟩
/-- A row of numbers. -/
def nums (zs : List Int) : List D := zs.map (fun z => .c (.int .i64 z))
theorem holds_nums {w : World} {B : Nat} : ∀ (zs : List Int) (xs : List Value) (bs : List Nat), HoldsL w B (nums zs) xs bs ↔ xs = ival zs ∧ bs = []
  | [], xs, bs => by unfold nums HoldsL ival; simp
  | z :: zs, xs, bs => by
    show HoldsL w B (.c (.int .i64 z) :: nums zs) xs bs ↔ _
    unfold HoldsL
    constructor
    · rintro ⟨x, xt, b1, b2, rfl, rfl, h1, h2⟩
      unfold Holds at h1
      obtain ⟨e1, e2⟩ := (holds_nums zs xt b2).1 h2
      rw [h1.1, h1.2, e1, e2]
      exact ⟨rfl, rfl⟩
    · rintro ⟨rfl, rfl⟩
      exact ⟨_, ival zs, [], [], rfl, rfl, by unfold Holds; exact ⟨rfl, rfl⟩, (holds_nums zs _ _).2 ⟨rfl, rfl⟩⟩
theorem holds_flat {w : World} {B e K n : Nat} {zs : List Int} {v : Value} {bs : List Nat} : Holds w B (.s e K n (nums zs)) v bs ↔ OwnI w B e K v n zs ∧ bs = v.ownBlock.toList := by
  unfold Holds
  constructor
  · rintro ⟨xs, fs, ho, hl, rfl⟩
    obtain ⟨rfl, rfl⟩ := (holds_nums zs xs fs).1 hl
    exact ⟨ho, by simp⟩
  · rintro ⟨ho, rfl⟩
    exact ⟨_, [], ho, (holds_nums zs _ _).2 ⟨rfl, rfl⟩, by simp⟩
theorem holds_c {w : World} {B : Nat} {u v : Value} {bs : List Nat} : Holds w B (.c u) v bs ↔ v = u ∧ bs = [] := by unfold Holds; exact Iff.rfl
theorem holdsL_cons {w : World} {B : Nat} {d : D} {ds : List D} {xs : List Value} {bs : List Nat} : HoldsL w B (d :: ds) xs bs ↔ ∃ x xt b1 b2, xs = x :: xt ∧ bs = b1 ++ b2 ∧ Holds w B d x b1 ∧ HoldsL w B ds xt b2 := by
  constructor
  · intro h; unfold HoldsL at h; exact h
  · intro h; unfold HoldsL; exact h
theorem holdsL_nil {w : World} {B : Nat} {xs : List Value} {bs : List Nat} : HoldsL w B [] xs bs ↔ xs = [] ∧ bs = [] := by
  constructor
  · intro h; unfold HoldsL at h; exact h
  · intro h; unfold HoldsL; exact h
theorem holds_s {w : World} {B e K n : Nat} {ds : List D} {v : Value} {bs : List Nat} : Holds w B (.s e K n ds) v bs ↔ ∃ xs fs, ownsAt w B e K v n xs ∧ HoldsL w B ds xs fs ∧ bs = v.ownBlock.toList ++ fs := by
  constructor
  · intro h; unfold Holds at h; exact h
  · intro h; unfold Holds; exact h
theorem Holds.next {w w' : World} {B : Nat} {d : D} {v : Value} {bs : List Nat} (h : Holds w B d v bs) (hb : Below w.heap.size w w') : Holds w' B d v bs := h.frame d v bs (fun b hm => hb.block b (Holds.lt d v bs h b hm).2)

theorem row_only {S : List Nat} {w w' : World} {B e K n : Nat} {v : Value} {xs : List Value} (h : ownsAt w B e K v n xs) (k : Only S w w') (hn : ∀ b, v.ownBlock = some b → b ∉ S) : ownsAt w' B e K v n xs :=
  row_frame h (fun b hb => k.block b (h.lt b hb).2 (hn b hb))
theorem holdsL_only {S : List Nat} {w w' : World} {B : Nat} {ds : List D} {xs : List Value} {bs : List Nat} (h : HoldsL w B ds xs bs) (k : Only S w w') (hn : ∀ b ∈ bs, b ∉ S) : HoldsL w' B ds xs bs :=
  HoldsL.frame ds xs bs h (fun b hb => k.block b (HoldsL.lt ds xs bs h b hb).2 (hn b hb))
theorem holds_only {S : List Nat} {w w' : World} {B : Nat} {d : D} {v : Value} {bs : List Nat} (h : Holds w B d v bs) (k : Only S w w') (hn : ∀ b ∈ bs, b ∉ S) : Holds w' B d v bs :=
  Holds.frame d v bs h (fun b hb => k.block b (Holds.lt d v bs h b hb).2 (hn b hb))
theorem mid_set (x1 : List Value) (n : Nat) (hl : x1.length = n) (y : List Value) (j : Nat) (u : Value) : (x1 ++ y).set (n + j) u = x1 ++ y.set j u := by
  rw [List.set_append_right _ _ (by omega), hl, Nat.add_sub_cancel_left]

mutual
/-- How many numbers, bools and letters lie there. -/
def szD : D → Nat
  | .c _ => 1
  | .s _ _ _ ds => szL ds
def szL : List D → Nat
  | [] => 0
  | d :: ds => szD d + szL ds
end
/-- What marking makes of a plain value. -/
def mkV (k : Nat) : Value → Value
  | .int .u8 _ => .int .u8 ((k : Int) % 256)
  | .int d _ => .int d (k : Int)
  | .bool _ => .bool (k % 3 == 0)
  | v => v
mutual
/-- What marking makes of a datum. -/
def mkD (k : Nat) : D → D
  | .c v => .c (mkV k v)
  | .s e K n ds => .s e K n (mkL k ds)
def mkL (k : Nat) : List D → List D
  | [] => []
  | d :: ds => mkD k d :: mkL (k + szD d) ds
end
theorem mkV_i64 (k : Nat) (z : Int) : mkV k (.int .i64 z) = .int .i64 (k : Int) := rfl
theorem mkV_u8 (k : Nat) (z : Int) : mkV k (.int .u8 z) = .int .u8 ((k : Int) % 256) := rfl
theorem mkV_bool (k : Nat) (b : Bool) : mkV k (.bool b) = .bool (k % 3 == 0) := rfl
theorem mkL_len : ∀ (ds : List D) (k : Nat), (mkL k ds).length = ds.length
  | [], k => rfl
  | d :: ds, k => by simp only [mkL, List.length_cons, mkL_len ds]
theorem szL_app : ∀ (d1 d2 : List D), szL (d1 ++ d2) = szL d1 + szL d2
  | [], d2 => by simp [szL]
  | d :: d1, d2 => by simp only [List.cons_append, szL, szL_app d1 d2]; omega
theorem mkL_app : ∀ (d1 d2 : List D) (k : Nat), mkL k (d1 ++ d2) = mkL k d1 ++ mkL (k + szL d1) d2
  | [], d2, k => by simp [mkL, szL]
  | d :: d1, d2, k => by simp only [List.cons_append, mkL, szL, mkL_app d1 d2]; rw [Nat.add_assoc]
theorem mkL_get (ds : List D) (k m : Nat) (d : D) (h : ds[m]? = some d) : (mkL k ds)[m]? = some (mkD (k + szL (ds.take m)) d) := by
  obtain ⟨hm, rfl⟩ := List.getElem?_eq_some_iff.1 h
  have e : ds = ds.take m ++ ds[m] :: ds.drop (m + 1) := by rw [← List.drop_eq_getElem_cons hm, List.take_append_drop]
  have hl : (mkL k (ds.take m)).length = m := by rw [mkL_len, List.length_take]; omega
  have e2 : mkL k ds = mkL k (ds.take m) ++ mkD (k + szL (ds.take m)) ds[m] :: mkL (k + szL (ds.take m) + szD ds[m]) (ds.drop (m + 1)) := by
    conv => lhs; rw [e, mkL_app]
    simp only [mkL]
  rw [e2, List.getElem?_append_right (by omega), hl, Nat.sub_self]
  rfl
theorem szL_take (ds : List D) (m : Nat) (d : D) (h : ds[m]? = some d) : szL (ds.take (m + 1)) = szL (ds.take m) + szD d := by
  obtain ⟨hm, rfl⟩ := List.getElem?_eq_some_iff.1 h
  rw [List.take_succ_eq_append_getElem hm, szL_app]
  simp only [szL]
  omega
/-- The first m cells marked. -/
def mdL (k : Nat) (ds : List D) (m : Nat) : List D := mkL k (ds.take m) ++ ds.drop m
theorem mdL_get (k : Nat) (ds : List D) (m : Nat) : (mdL k ds m)[m]? = ds[m]? := by
  unfold mdL
  by_cases hm : m ≤ ds.length
  · have hl : (mkL k (ds.take m)).length = m := by rw [mkL_len, List.length_take]; omega
    rw [List.getElem?_append_right (by omega), hl, Nat.sub_self, List.getElem?_drop, Nat.add_zero]
  · rw [List.getElem?_eq_none (by rw [List.length_append, mkL_len, List.length_take, List.length_drop]; omega), List.getElem?_eq_none (by omega)]
theorem mdL_set (k : Nat) (ds : List D) (m : Nat) (d : D) (h : ds[m]? = some d) : (mdL k ds m).set m (mkD (k + szL (ds.take m)) d) = mdL k ds (m + 1) := by
  obtain ⟨hm, rfl⟩ := List.getElem?_eq_some_iff.1 h
  have hl : (mkL k (ds.take m)).length = m := by rw [mkL_len, List.length_take]; omega
  unfold mdL
  rw [List.set_append_right _ _ (by omega), hl, Nat.sub_self, List.drop_eq_getElem_cons hm, List.set_cons_zero, List.take_succ_eq_append_getElem hm, mkL_app, List.append_assoc]
  rfl
theorem mdL_zero (k : Nat) (ds : List D) : mdL k ds 0 = ds := by unfold mdL; simp [mkL]
theorem mdL_end (k : Nat) (ds : List D) (n : Nat) (h : ds.length = n) : mdL k ds n = mkL k ds := by subst h; unfold mdL; simp
theorem mdL_len (k : Nat) (ds : List D) (m : Nat) : (mdL k ds m).length = ds.length := by unfold mdL; rw [List.length_append, mkL_len, List.length_take, List.length_drop]; omega
/-- One cell of several. -/
theorem HoldsL.at {w : World} {B : Nat} {ds : List D} {xs : List Value} {bs : List Nat} (h : HoldsL w B ds xs bs) {m : Nat} {d : D} (hd : ds[m]? = some d) :
    ∃ x f1 bu f2, xs[m]? = some x ∧ bs = f1 ++ (bu ++ f2) ∧ Holds w B d x bu ∧ ∀ (w' : World) (d' : D) (x' : Value), Holds w' B d' x' bu → (∀ b ∈ f1 ++ f2, w'.heap[b]? = w.heap[b]?) → HoldsL w' B (ds.set m d') (xs.set m x') bs := by
  obtain ⟨hm, rfl⟩ := List.getElem?_eq_some_iff.1 hd
  have e : ds = ds.take m ++ ds[m] :: ds.drop (m + 1) := by rw [← List.drop_eq_getElem_cons hm, List.take_append_drop]
  have h2 := h
  rw [e] at h2
  obtain ⟨x1, y, f1, g1, rfl, rfl, h1, hr⟩ := HoldsL.split _ _ _ _ h2
  obtain ⟨x, x2, bu, f2, rfl, rfl, hx, hr2⟩ := holdsL_cons.1 hr
  have hl : x1.length = m := by rw [HoldsL.len _ _ _ h1, List.length_take]; omega
  refine ⟨x, f1, bu, f2, ?_, rfl, hx, ?_⟩
  · rw [List.getElem?_append_right (by omega), hl, Nat.sub_self]; rfl
  · intro w' d' x' hx' hf
    have es : ds.set m d' = ds.take m ++ d' :: ds.drop (m + 1) := by rw [List.set_eq_take_append_cons_drop, if_pos hm]
    have ex : (x1 ++ x :: x2).set m x' = x1 ++ x' :: x2 := by rw [List.set_append_right _ _ (by omega), hl, Nat.sub_self, List.set_cons_zero]
    rw [es, ex]
    exact HoldsL.join _ _ _ _ _ _ (HoldsL.frame _ _ _ h1 (fun b hb => hf b (List.mem_append_left _ hb))) (holdsL_cons.2 ⟨_, _, _, _, rfl, rfl, hx', HoldsL.frame _ _ _ hr2 (fun b hb => hf b (List.mem_append_right _ hb))⟩)
/-- A slice's form. -/
theorem Holds.form {w : World} {B e K n : Nat} {ds : List D} {v : Value} {bs : List Nat} (h : Holds w B (.s e K n ds) v bs) : (v = .slice none 0 0 ∧ n = 0 ∧ ds = []) ∨ ∃ g off cap, v = .slice (some ⟨g, off, none⟩) n cap ∧ B ≤ g ∧ g < w.heap.size ∧ n ≤ cap ∧ ds.length = n * K := by
  obtain ⟨xs, fs, ho, hl, hbs⟩ := holds_s.1 h
  have hlen := HoldsL.len _ _ _ hl
  rcases ho.2 with ⟨hv, h0⟩ | ⟨g, off, cap, cur, hv, hB, hg, hc, _⟩
  · refine .inl ⟨hv, h0, List.length_eq_zero_iff.1 ?_⟩
    rw [← hlen, ho.1, h0, Nat.zero_mul]
  · exact .inr ⟨g, off, cap, hv, hB, (Array.getElem?_eq_some_iff.1 hg).1, hc, by rw [← hlen, ho.1]⟩
theorem Holds.slice {w : World} {B e K n : Nat} {ds : List D} {v : Value} {bs : List Nat} (h : Holds w B (.s e K n ds) v bs) : ∃ a cap, v = .slice a n cap := by
  rcases h.form with ⟨rfl, rfl, _⟩ | ⟨g, off, cap, rfl, _⟩
  · exact ⟨none, 0, rfl⟩
  · exact ⟨_, cap, rfl⟩
theorem Holds.len {w : World} {B e K n : Nat} {ds : List D} {v : Value} {bs : List Nat} (h : Holds w B (.s e K n ds) v bs) : ds.length = n * K := by
  rcases h.form with ⟨_, rfl, rfl⟩ | ⟨_, _, _, _, _, _, _, hl⟩
  · simp
  · exact hl
/-- A cell of a slice that holds a plain value. -/
theorem Holds.cell {w : World} {B e K n g off cap : Nat} {ds : List D} {bs : List Nat} (h : Holds w B (.s e K n ds) (.slice (some ⟨g, off, none⟩) n cap) bs) {m : Nat} {u : Value} (hu : ds[m]? = some (.c u)) : w.cell? ⟨g, off + m, none⟩ = some u := by
  obtain ⟨xs, fs, ho, hl, hbs⟩ := holds_s.1 h
  obtain ⟨x, _, _, _, hx, _, hh, _⟩ := hl.at hu
  have hm := (List.getElem?_eq_some_iff.1 hx).1
  rw [ho.cellAt m (by rw [← ho.1]; exact hm), hx, (holds_c.1 hh).1]
theorem Holds.frozen {w : World} {B e K n g off cap : Nat} {ds : List D} {bs : List Nat} (h : Holds w B (.s e K n ds) (.slice (some ⟨g, off, none⟩) n cap) bs) (o : Nat) : w.frozen? ⟨g, o, none⟩ = false := by
  obtain ⟨xs, fs, ho, hl, hbs⟩ := holds_s.1 h
  exact ho.frozenAt o
/-- A cell of a slice that holds a slice. -/
theorem Holds.sub {w : World} {B e K n g off cap e' K' n' : Nat} {ds ds' : List D} {bs : List Nat} (h : Holds w B (.s e K n ds) (.slice (some ⟨g, off, none⟩) n cap) bs) {m : Nat} (hu : ds[m]? = some (.s e' K' n' ds')) : ∃ u bu, w.cell? ⟨g, off + m, none⟩ = some u ∧ Holds w B (.s e' K' n' ds') u bu ∧ (∀ b ∈ bu, b ∈ bs) ∧ (bs.Nodup → bu.Nodup ∧ g ∉ bu ∧ ∀ (w' : World) (d' : D), Only bu w w' → Holds w' B d' u bu → Holds w' B (.s e K n (ds.set m d')) (.slice (some ⟨g, off, none⟩) n cap) bs) := by
  obtain ⟨xs, fs, ho, hl, hbs⟩ := holds_s.1 h
  obtain ⟨x, f1, bu, f2, hx, hf, hh, hk⟩ := hl.at hu
  have hm := (List.getElem?_eq_some_iff.1 hx).1
  have hg : (Value.slice (some ⟨g, off, none⟩) n cap).ownBlock.toList = [g] := rfl
  rw [hg] at hbs
  refine ⟨x, bu, by rw [ho.cellAt m (by rw [← ho.1]; exact hm), hx], hh, ?_, ?_⟩
  · intro b hb
    rw [hbs, hf]
    simp [hb]
  · intro hnd
    rw [hbs, hf] at hnd
    simp only [List.singleton_append, List.nodup_cons, List.mem_append, not_or, List.nodup_append] at hnd
    obtain ⟨⟨n1, n2, n3⟩, hn1, ⟨hn2, hn3, q1⟩, q2⟩ := hnd
    refine ⟨hn2, n2, ?_⟩
    intro w' d' hon hd'
    have hlt := HoldsL.lt _ _ _ hl
    have hbd : ∀ b ∈ f1 ++ f2, w'.heap[b]? = w.heap[b]? := fun b hb => hon.block b (hlt b (by rw [hf]; rcases List.mem_append.1 hb with h | h <;> simp [h])).2 (fun hm => by
      rcases List.mem_append.1 hb with h | h
      · exact q2 b h b (.inl hm) rfl
      · exact q1 b hm b h rfl)
    have hx2 := hk w' d' x hd' hbd
    have es : xs.set m x = xs := by rw [List.getElem?_eq_some_iff] at hx; obtain ⟨_, rfl⟩ := hx; exact List.set_getElem_self _
    rw [es] at hx2
    refine holds_s.2 ⟨xs, fs, row_only ho hon (fun b hb => by cases hb; exact n2), hx2, ?_⟩
    rw [hg, hbs]
/-- A plain value put into a cell. -/
theorem Holds.put {w : World} {B e K n g off cap : Nat} {ds : List D} {bs : List Nat} (h : Holds w B (.s e K n ds) (.slice (some ⟨g, off, none⟩) n cap) bs) (hnd : bs.Nodup) {m : Nat} {u : Value} (hu : ds[m]? = some (.c u)) (u' : Value) : Holds (w.setCell ⟨g, off + m, none⟩ u') B (.s e K n (ds.set m (.c u'))) (.slice (some ⟨g, off, none⟩) n cap) bs ∧ Only [g] w (w.setCell ⟨g, off + m, none⟩ u') := by
  obtain ⟨xs, fs, ho, hl, hbs⟩ := holds_s.1 h
  obtain ⟨x, f1, bu, f2, hx, hf, hh, hk⟩ := hl.at hu
  have hg : (Value.slice (some ⟨g, off, none⟩) n cap).ownBlock.toList = [g] := rfl
  rw [hg] at hbs
  obtain ⟨rfl, rfl⟩ := holds_c.1 hh
  have hst := ho.stored m u'
  have hon := Only.of_some hst.2
  rw [hbs] at hnd
  have hng : g ∉ fs := by simp only [List.singleton_append, List.nodup_cons] at hnd; exact hnd.1
  have hlt := HoldsL.lt _ _ _ hl
  have hx2 := hk (w.setCell ⟨g, off + m, none⟩ u') (.c u') u' (holds_c.2 ⟨rfl, rfl⟩) (fun b hb => hon.block b (hlt b (by rw [hf]; rcases List.mem_append.1 hb with h | h <;> simp [h])).2 (fun hm => by
    rw [List.mem_singleton.1 hm] at hb
    exact hng (by rw [hf]; rcases List.mem_append.1 hb with h | h <;> simp [h])))
  exact ⟨holds_s.2 ⟨_, _, hst.1, hx2, by rw [hg, hbs]⟩, hon⟩
/-- The same, as a mark. -/
theorem Holds.mark {w : World} {B e K n g off cap k m : Nat} {ds : List D} {bs : List Nat} (h : Holds w B (.s e K n (mdL k ds m)) (.slice (some ⟨g, off, none⟩) n cap) bs) (hnd : bs.Nodup) {u : Value} (hu : ds[m]? = some (.c u)) (u' : Value) (he : u' = mkV (k + szL (ds.take m)) u) : Holds (w.setCell ⟨g, off + m, none⟩ u') B (.s e K n (mdL k ds (m + 1))) (.slice (some ⟨g, off, none⟩) n cap) bs ∧ Only [g] w (w.setCell ⟨g, off + m, none⟩ u') := by
  have hp := h.put hnd (by rw [mdL_get]; exact hu) u'
  have e2 : D.c u' = mkD (k + szL (ds.take m)) (.c u) := by rw [he]; rfl
  rw [e2, mdL_set k ds m _ hu] at hp
  exact hp
theorem Holds.marks {w : World} {B e K n g off cap k m e' K' n' : Nat} {ds ds' : List D} {bs : List Nat} (h : Holds w B (.s e K n (mdL k ds m)) (.slice (some ⟨g, off, none⟩) n cap) bs) (hnd : bs.Nodup) (hu : ds[m]? = some (.s e' K' n' ds')) : ∃ u bu, w.cell? ⟨g, off + m, none⟩ = some u ∧ Holds w B (.s e' K' n' ds') u bu ∧ (∀ b ∈ bu, b ∈ bs) ∧ bu.Nodup ∧ g ∉ bu ∧ ∀ (w' : World), Only bu w w' → Holds w' B (mkD (k + szL (ds.take m)) (.s e' K' n' ds')) u bu → Holds w' B (.s e K n (mdL k ds (m + 1))) (.slice (some ⟨g, off, none⟩) n cap) bs := by
  obtain ⟨u, bu, hc, hh, hsub, hk⟩ := h.sub (m := m) (by rw [mdL_get]; exact hu)
  obtain ⟨h1, h2, h3⟩ := hk hnd
  refine ⟨u, bu, hc, hh, hsub, h1, h2, ?_⟩
  intro w' hon hd'
  have := h3 w' _ hon hd'
  rw [mdL_set k ds m _ hu] at this
  exact this
theorem flat_get {α : Type} (f : α → List D) (K : Nat) (hf : ∀ a, (f a).length = K) : ∀ (os : List α) (i j : Nat) (hi : i < os.length), j < K → (os.flatMap f)[i * K + j]? = (f os[i])[j]?
  | [], i, j, hi, _ => by simp at hi
  | o :: os, 0, j, _, hj => by
    rw [List.flatMap_cons, Nat.zero_mul, Nat.zero_add, List.getElem?_append_left (by rw [hf]; exact hj)]; rfl
  | o :: os, i + 1, j, hi, hj => by
    have hi' : i < os.length := by simpa using hi
    rw [List.flatMap_cons, List.getElem?_append_right (by rw [hf, Nat.succ_mul]; omega), hf, show (i + 1) * K + j - K = i * K + j by rw [Nat.succ_mul]; omega, flat_get f K hf os i j hi' hj]
    rfl
theorem flat_len {α : Type} (f : α → List D) (K : Nat) (hf : ∀ a, (f a).length = K) : ∀ (os : List α), (os.flatMap f).length = os.length * K
  | [] => by simp
  | o :: os => by rw [List.flatMap_cons, List.length_append, hf, flat_len f K hf os, List.length_cons, Nat.succ_mul]; omega
theorem mark_bool (k : Nat) : ((k : Int) % 3 == 0) = (k % 3 == 0) := by
  rw [Bool.eq_iff_iff, beq_iff_eq, beq_iff_eq]
  omega
theorem mdL_ge (k : Nat) (ds : List D) (m j : Nat) (h : m ≤ j) : (mdL k ds m)[j]? = ds[j]? := by
  unfold mdL
  by_cases hm : m ≤ ds.length
  · have hl : (mkL k (ds.take m)).length = m := by rw [mkL_len, List.length_take]; omega
    rw [List.getElem?_append_right (by omega), hl, List.getElem?_drop, show m + (j - m) = j by omega]
  · rw [List.getElem?_eq_none (by rw [List.length_append, mkL_len, List.length_take, List.length_drop]; omega), List.getElem?_eq_none (by omega)]
theorem Holds.cellA {w : World} {B e K n g off cap : Nat} {ds : List D} {bs : List Nat} (h : Holds w B (.s e K n ds) (.slice (some ⟨g, off, none⟩) n cap) bs) {A m : Nat} (hA : A = off + m) {u : Value} (hu : ds[m]? = some (.c u)) : w.cell? ⟨g, A, none⟩ = some u := by subst hA; exact h.cell hu
theorem Holds.markA {w : World} {B e K n g off cap k m A : Nat} {ds : List D} {bs : List Nat} (h : Holds w B (.s e K n (mdL k ds m)) (.slice (some ⟨g, off, none⟩) n cap) bs) (hnd : bs.Nodup) (hA : A = off + m) {u : Value} (hu : ds[m]? = some (.c u)) (u' : Value) (he : u' = mkV (k + szL (ds.take m)) u) : Holds (w.setCell ⟨g, A, none⟩ u') B (.s e K n (mdL k ds (m + 1))) (.slice (some ⟨g, off, none⟩) n cap) bs ∧ Only [g] w (w.setCell ⟨g, A, none⟩ u') ∧ ∀ A', A' ≠ A → (w.setCell ⟨g, A, none⟩ u').cell? ⟨g, A', none⟩ = w.cell? ⟨g, A', none⟩ := by
  subst hA
  have h1 := h.mark hnd hu u' he
  exact ⟨h1.1, h1.2, fun A' hA' => by
    have hne : (⟨g, off + m, none⟩ : Addr) ≠ ⟨g, A', none⟩ := fun e => hA' (by injection e with _ e2; exact e2.symm)
    rw [World.cell?_setCell_other _ _ _ _ hne]⟩
theorem Holds.marksA {w : World} {B e K n g off cap k m e' K' n' A : Nat} {ds ds' : List D} {bs : List Nat} (h : Holds w B (.s e K n (mdL k ds m)) (.slice (some ⟨g, off, none⟩) n cap) bs) (hnd : bs.Nodup) (hA : A = off + m) (hu : ds[m]? = some (.s e' K' n' ds')) : ∃ u bu, w.cell? ⟨g, A, none⟩ = some u ∧ Holds w B (.s e' K' n' ds') u bu ∧ (∀ b ∈ bu, b ∈ bs) ∧ bu.Nodup ∧ g ∉ bu ∧ ∀ (w' : World), Only bu w w' → Holds w' B (mkD (k + szL (ds.take m)) (.s e' K' n' ds')) u bu → Holds w' B (.s e K n (mdL k ds (m + 1))) (.slice (some ⟨g, off, none⟩) n cap) bs := by subst hA; exact h.marks hnd hu
theorem Holds.subA {w : World} {B e K n g off cap e' K' n' A : Nat} {ds ds' : List D} {bs : List Nat} (h : Holds w B (.s e K n ds) (.slice (some ⟨g, off, none⟩) n cap) bs) {m : Nat} (hA : A = off + m) (hu : ds[m]? = some (.s e' K' n' ds')) : ∃ u bu, w.cell? ⟨g, A, none⟩ = some u ∧ Holds w B (.s e' K' n' ds') u bu := by
  subst hA
  obtain ⟨u, bu, h1, h2, _⟩ := h.sub hu
  exact ⟨u, bu, h1, h2⟩
theorem szL_take_le (ds : List D) (m : Nat) : szL (ds.take m) ≤ szL ds := by
  have e : szL ds = szL (ds.take m) + szL (ds.drop m) := by rw [← szL_app, List.take_append_drop]
  omega
theorem Holds.mine {w : World} {B e K n g off cap : Nat} {ds : List D} {bs : List Nat} (h : Holds w B (.s e K n ds) (.slice (some ⟨g, off, none⟩) n cap) bs) : g ∈ bs := by
  obtain ⟨xs, fs, ho, hl, hbs⟩ := holds_s.1 h
  rw [hbs]
  simp [Value.ownBlock]
theorem holds_none {w : World} {B e K : Nat} : Holds w B (.s e K 0 []) (.slice none 0 0) [] := holds_s.2 ⟨[], [], ⟨by simp, .inl ⟨rfl, rfl⟩⟩, holdsL_nil.2 ⟨rfl, rfl⟩, by simp [Value.ownBlock]⟩
mutual
theorem Holds.down {w : World} {B C : Nat} (hC : C ≤ B) : ∀ (d : D) (v : Value) (bs : List Nat), Holds w B d v bs → Holds w C d v bs
  | .c u, v, bs, h => by obtain ⟨h1, h2⟩ := holds_c.1 h; exact holds_c.2 ⟨h1, h2⟩
  | .s e K n ds, v, bs, h => by
    obtain ⟨xs, fs, ho, hl, hb⟩ := holds_s.1 h
    exact holds_s.2 ⟨xs, fs, ho.mono hC, HoldsL.down hC ds xs fs hl, hb⟩
theorem HoldsL.down {w : World} {B C : Nat} (hC : C ≤ B) : ∀ (ds : List D) (xs : List Value) (bs : List Nat), HoldsL w B ds xs bs → HoldsL w C ds xs bs
  | [], xs, bs, h => by obtain ⟨h1, h2⟩ := holdsL_nil.1 h; exact holdsL_nil.2 ⟨h1, h2⟩
  | d :: ds, xs, bs, h => by
    obtain ⟨x, xt, b1, b2, h1, h2, h3, h4⟩ := holdsL_cons.1 h
    exact holdsL_cons.2 ⟨x, xt, b1, b2, h1, h2, Holds.down hC d x b1 h3, HoldsL.down hC ds xt b2 h4⟩
end

def byD (zs : List Int) : List D := zs.map (fun z => D.c (.int .u8 z))
/-- Bytes. -/
def bytesD (zs : List Int) : D := .s 5 1 zs.length (byD zs)
theorem byD_len (zs : List Int) : (byD zs).length = zs.length := by unfold byD; rw [List.length_map]
theorem byD_get (zs : List Int) (j : Nat) (h : j < zs.length) : (byD zs)[j]? = some (.c (.int .u8 (zs.getD j 0))) := by
  unfold byD
  rw [List.getElem?_map, List.getElem?_eq_getElem h, List.getD_eq_getElem?_getD, List.getElem?_eq_getElem h]; rfl
theorem byD_sz : ∀ zs : List Int, szL (byD zs) = zs.length
  | [] => rfl
  | z :: zs => by
    show szD (.c (.int .u8 z)) + szL (byD zs) = _
    rw [byD_sz zs]; simp only [szD, List.length_cons]; omega
theorem byD_take (zs : List Int) (i : Nat) (h : i ≤ zs.length) : szL ((byD zs).take i) = i := by
  have e : (byD zs).take i = byD (zs.take i) := by unfold byD; rw [List.map_take]
  rw [e, byD_sz, List.length_take]
  omega
theorem byD_mk (k : Nat) (zs : List Int) : mkL k (byD zs) = byD (marks k zs.length) := by
  apply List.ext_getElem?
  intro j
  by_cases hj : j < zs.length
  · rw [mkL_get _ k j _ (byD_get zs j hj), byD_take zs j (by omega), byD_get _ _ (by rw [marks_len]; exact hj), marks_get k _ j hj]
    show some (D.c (mkV _ _)) = _
    rw [mkV_u8]
    simp
  · rw [List.getElem?_eq_none (by rw [mkL_len, byD_len]; omega), List.getElem?_eq_none (by rw [byD_len, marks_len]; omega)]
theorem bytesD_mk (k : Nat) (zs : List Int) : mkD k (bytesD zs) = bytesD (marks k zs.length) := by
  unfold bytesD
  rw [marks_len]
  simp only [mkD, byD_mk]
theorem bytesD_sz (zs : List Int) : szD (bytesD zs) = zs.length := by unfold bytesD; simp only [szD, byD_sz]
theorem bytes_arr {w : World} {B : Nat} {zs : List Int} {v : Value} {bs : List Nat} (h : Holds w B (bytesD zs) v bs) (hz : ∀ z ∈ zs, 0 ≤ z ∧ z ≤ 255) : ∃ a cap, v = .slice a zs.length cap ∧ Arr w a zs := by
  rcases Holds.form h with ⟨rfl, h0, _⟩ | ⟨g, off, cap, rfl, hB, hg, hc, hl⟩
  · rw [h0]
    exact ⟨none, 0, rfl, hz, fun j hj => by omega⟩
  · exact ⟨_, cap, rfl, hz, fun j hj => ⟨g, off, rfl, hg, Holds.cell h (byD_get zs j hj)⟩⟩
theorem holds_byD {w : World} {B : Nat} : ∀ (zs : List Int), HoldsL w B (byD zs) (bval zs) []
  | [] => holdsL_nil.2 ⟨rfl, rfl⟩
  | z :: zs => holdsL_cons.2 ⟨_, _, [], [], rfl, rfl, holds_c.2 ⟨rfl, rfl⟩, holds_byD zs⟩
theorem bytes_own {w : World} {B : Nat} {zs : List Int} {v : Value} (h : OwnB w B v zs) : Holds w B (bytesD zs) v v.ownBlock.toList := holds_s.2 ⟨_, [], ownsAt.of_row h.1, holds_byD zs, by simp⟩
set_option maxHeartbeats 1000000 in
theorem eqByteS_d (zs : List Int) (v1 v2 : Value) (B1 B2 : Nat) (f1 f2 : List Nat) (w : World) (h1 : Holds w B1 (bytesD zs) v1 f1) (h2 : Holds w B2 (bytesD zs) v2 f2) (hz : ∀ z ∈ zs, 0 ≤ z ∧ z ≤ 255) (hm : zs.length ≤ 1048576) :
    Calls Tryd.prog 15 #[v1, v2] w fun e w' => e = .returned (.bool true) ∧ Below w.heap.size w w' := by
  obtain ⟨a1, c1, rfl, k1⟩ := bytes_arr h1 hz
  obtain ⟨a2, c2, rfl, k2⟩ := bytes_arr h2 hz
  refine (eqByteS_walk a1 a2 _ c1 c2 zs w rfl k1 k2 hm).mono ?_
  rintro e w' ⟨rfl, hb, _⟩
  exact ⟨rfl, hb⟩
set_option maxHeartbeats 1000000 in
theorem markByteS_some (g off cap n B : Nat) (zs : List Int) (bs : List Nat) (k : Nat) (w : World) (hn : zs.length = n) (h : Holds w B (bytesD zs) (.slice (some ⟨g, off, none⟩) n cap) bs) (hnd : bs.Nodup) (hk : k + n ≤ 1073741824) :
    Calls Tryd.prog 16 #[.slice (some ⟨g, off, none⟩) n cap, .int .i64 (k : Int)] w fun e w' => e = .returned (.int .i64 ((k + n : Nat) : Int)) ∧ Holds w' B (mkD k (bytesD zs)) (.slice (some ⟨g, off, none⟩) n cap) bs ∧ Only bs w w' := by
  unfold bytesD at h ⊢
  rw [hn] at h ⊢
  have HN := hide hn
  have HO := hide h
  have HND := hide hnd
  have HG := hide h.mine
  clear hn h hnd
  go_enter Tryd.func16, Tryd.ntmps16
  go_wp2_with fail
  go_loopw [1, 5] (fun s t w2 => ∃ i : Nat, i ≤ n ∧ s = .int .i64 ((k : Int) + (i : Int)) ∧ t = .int .i64 i ∧ Hid (Holds w2 B (.s 5 1 n (mdL k (byD zs) i)) (.slice (some ⟨g, off, none⟩) n cap) bs) ∧ Only bs w w2) (fun _ t _ => n - (intOf t).toNat)
  case atStart => exact ⟨0, Nat.zero_le _, by go_num, rfl, hide (by rw [mdL_zero]; exact HO.out), Only.refl _ _⟩
  case round =>
    obtain ⟨i, hi, rfl, rfl, HO2, hg⟩ := hrel
    by_cases hlt : i < n
    · have hf : wr.frozen? ⟨g, off + i, none⟩ = false := HO2.out.frozen _
      have HU : Hid ((byD zs)[i]? = some (.c (.int .u8 (zs.getD i 0)))) := hide (byD_get zs i (by rw [HN.out]; exact hlt))
      have hc := HO2.out.cell (m := i) (by rw [mdL_get]; exact HU.out)
      have HST := hide (HO2.out.mark HND.out HU.out (.int .u8 (((k : Int) + (i : Int)) % 256)) (by rw [byD_take zs i (by rw [HN.out]; exact hi), mkV_u8]; simp))
      generalize zs.getD i 0 = old at hc
      go_wp2_with fail
      exact ⟨⟨i + 1, by omega, by go_num, by go_num, hide HST.out.1, hg.trans (HST.out.2.mono (by intro x hx; rw [List.mem_singleton.1 hx]; exact HG.out))⟩, by simp [intOf]; omega⟩
    · have hi' : i = n := by omega
      subst hi'
      have HE : Hid (mdL k (byD zs) i = mkL k (byD zs)) := hide (mdL_end k _ i (by rw [byD_len]; exact HN.out))
      go_wp2_with fail
      go_ret
      exact ⟨ret_int (by omega), by simp only [mkD]; rw [← HE.out]; exact HO2.out, hg⟩
theorem markByteS_d (zs : List Int) (v : Value) (B : Nat) (bs : List Nat) (k : Nat) (w : World) (h : Holds w B (bytesD zs) v bs) (hnd : bs.Nodup) (hk : k + zs.length ≤ 1073741824) :
    Calls Tryd.prog 16 #[v, .int .i64 (k : Int)] w fun e w' => e = .returned (.int .i64 ((k + zs.length : Nat) : Int)) ∧ Holds w' B (mkD k (bytesD zs)) v bs ∧ Only bs w w' := by
  rcases Holds.form h with ⟨rfl, h0, _⟩ | ⟨g, off, cap, rfl, _⟩
  · have e : zs = [] := List.length_eq_zero_iff.1 h0
    subst e
    have CN : Calls Tryd.prog 16 #[.slice none 0 0, .int .i64 (k : Int)] w fun e w' => e = .returned (.int .i64 (k : Int)) ∧ w' = w := by
      go_enter Tryd.func16, Tryd.ntmps16
      go_wp2_with fail
      go_loop [1, 5] (fun s t => s = .int .i64 (k : Int) ∧ t = .int .i64 0) (fun _ _ => 0)
      case atStart => exact ⟨rfl, rfl⟩
      case round =>
        obtain ⟨rfl, rfl⟩ := hrel
        go_wp2_with fail
        go_ret
        exact ⟨rfl, rfl⟩
    refine CN.mono ?_
    rintro e w' ⟨rfl, rfl⟩
    exact ⟨by simp, h, Only.refl _ _⟩
  · exact markByteS_some g off cap _ B zs bs k w rfl h hnd hk
set_option maxHeartbeats 1000000 in
theorem heldByteS_d (zs : List Int) (v : Value) (B : Nat) (bs : List Nat) (k : Nat) (w : World) (h : Holds w B (mkD k (bytesD zs)) v bs) (hk : k + zs.length ≤ 1073741824) :
    Calls Tryd.prog 52 #[v, .int .i64 (k : Int)] w fun e w' => e = .returned (.int .i64 ((k + zs.length : Nat) : Int)) ∧ w' = w := by
  rw [bytesD_mk] at h
  obtain ⟨a, cap, rfl, hA⟩ := bytes_arr h (marks_bd k _)
  clear h
  rw [marks_len]
  obtain ⟨n, hn⟩ : ∃ n, n = zs.length := ⟨_, rfl⟩
  rw [← hn] at hA hk ⊢
  clear hn
  have HA := hide hA
  clear hA
  go_enter Tryd.func52, Tryd.ntmps52
  go_wp2_with fail
  go_loop [1, 5] (fun s t => ∃ i : Nat, i ≤ n ∧ s = .int .i64 ((k : Int) + (i : Int)) ∧ t = .int .i64 i) (fun _ t => n - (intOf t).toNat)
  case atStart => exact ⟨0, Nat.zero_le _, by go_num, rfl⟩
  case round =>
    obtain ⟨i, hi, rfl, rfl⟩ := hrel
    by_cases hlt : i < n
    · obtain ⟨b, off, rfl, hb, hc⟩ := HA.out.2 i (by rw [marks_len]; exact hlt)
      rw [marks_get k n i hlt] at hc
      go_wp2_with fail
      exact ⟨⟨i + 1, by omega, by go_num, by go_num⟩, by simp [intOf]; omega⟩
    · have hi' : i = n := by omega
      subst hi'
      go_wp2_with fail
      go_ret
      exact ⟨ret_int (by omega), rfl⟩
end Go.Proofs.YtcnfnimgpiaamaaDoor
