/-
Contracts of functions of this seat.
-/
import Derived.Test.YtddkcgngpclgfaaRows
import Derived.WalkKit
import Derived.ProofKit
import Derived.OpenShut
import Derived.Test.YtddkcgngpclgfaaBl11
import Derived.StillTailTactics
import Derived.BigQuiet
import Derived.Deep.Cut
namespace Go.Proofs.Ytddkcgngpclgfaa
open Go.ChangeShapes Go.WideShapes Go.ChangeAt Go.RowKit
set_option linter.unusedVariables false
set_option maxRecDepth 100000
theorem still_of_quiet {P : Program} {ops : Array Oper} {w : World} {Q : Act → Prop} : ∀ (l : List Oper) (a : Act), wpQuiet P ops (fun w' => w' = w) Q l a → wpStill P ops w Q l a
  | [], _, h => h
  | o :: rest, a, h => by
    unfold wpQuiet at h
    unfold wpStill
    by_cases hw : Region.wanted o (yielded ops a.tmps) = true
    · rw [if_pos hw] at h ⊢
      obtain ⟨v, h1, h2⟩ := h
      have h3 := h1 w rfl
      have h4 := still_of_quiet rest _ h2
      unfold Oper.quietAt at h3
      unfold Oper.still
      revert h3
      generalize (execOp a.eval o).run P w = R
      intro h3
      unfold Oper.quietUpon at h3
      unfold Oper.stillUpon
      split at h3
      · obtain ⟨rfl, rfl⟩ := h3
        exact ⟨rfl, h4⟩
      · obtain ⟨rfl, rfl⟩ := h3
        exact ⟨rfl, h4⟩
      · obtain ⟨rfl, hc⟩ := h3
        exact ⟨rfl, v, hc, h4⟩
      · exact h3.elim
    · rw [if_neg hw] at h ⊢
      exact still_of_quiet rest _ h
/-- A region that only looks, and then does what has waited for all of it. -/
theorem region_tail {P : Program} {id : Nat} {Q : Exit → Act → World → Prop} {a : Act} {w : World} {l : List Oper} (n : Nat) (hm : P.follows .mixedOrders = true) (hB : Region.lexTailB .any l.toArray n = true)
    (h : wpQuiet P l.toArray (fun w' => w' = w.drew) (fun a' => wpList P l.toArray Q (l.drop n) a' w.drew) (l.take n) a) : (Code.region id l.toArray true).wp P Q a w := wp_region_still_tail n hm hB (still_of_quiet _ _ h)

theorem isPieceSize_walk (n : Int) (w : World) : Calls Try.prog 34 #[.int .i64 n] w fun e w' => e = .returned (.bool (inB n 1 65535)) ∧ w' = w := by
  by_cases h : 1 ≤ n ∧ n ≤ 65535
  · rw [inB_iff.2 h]
    obtain ⟨h1, h2⟩ := h
    go_enter Try.func34, Try.ntmps34
    go_wp2
    go_ret
    exact ⟨rfl, rfl⟩
  · rw [show inB n 1 65535 = false from decide_eq_false h]
    by_cases h1 : 1 ≤ n
    · have h2 : ¬ n ≤ 65535 := fun h2 => h ⟨h1, h2⟩
      clear h
      go_enter Try.func34, Try.ntmps34
      go_wp2
      go_ret
      exact ⟨rfl, rfl⟩
    · clear h
      go_enter Try.func34, Try.ntmps34
      go_wp2
      go_ret
      exact ⟨rfl, rfl⟩
/-- What is sent and when are valid. -/
def sdOK (k t : Int) : Prop := (1 ≤ k ∧ k ≤ 65535) ∧ (0 ≤ t ∧ t ≤ 1000000000)
instance (k t : Int) : Decidable (sdOK k t) := by unfold sdOK; infer_instance
/-- There is no room. -/
def sdFull (x k : Int) (os : List PieceM) : Prop := os.length = 4096 ∨ 1099511627776 < x + k
instance (x k : Int) (os : List PieceM) : Decidable (sdFull x k os) := by unfold sdFull; infer_instance
abbrev newP (x k t : Int) : PieceM := ⟨x, x + k, t, 1, false, false⟩
theorem DL.setx {w : World} {B L : Nat} {u x : Int} {ns : List (Nat × PieceM)} (h : DL w B L u x ns) (y : Int) : DL (w.setCell ⟨L, 1, none⟩ (.int .i64 y)) B L u y ns := by
  refine ⟨hv_set h.head 1 _, h.seg.frame (fun b hb => heap_setCell_other _ _ b _ (fun e => ?_)), h.nd, h.lo⟩
  have h1 := (List.nodup_cons.1 h.nd).1
  exact h1 (by rw [show L = b from e.symm]; exact hb)
set_option maxHeartbeats 8000000 in
theorem send_full (B L : Nat) (u x k t : Int) (ns : List (Nat × PieceM)) (w : World) (h : DL w B L u x ns) (hB : B ≤ w.heap.size) (hok : bOK u x (ns.map Prod.snd)) (hk : 1 ≤ k ∧ k ≤ 65535) (hf : sdFull x k (ns.map Prod.snd)) :
    Calls Try.prog 36 #[.pointer (some ⟨L, 0, none⟩), .int .i64 k, .int .i64 t] w fun e w' => e = .returned (.bool false) ∧ w' = w := by
  obtain ⟨k1, k2⟩ := hk
  have l1 := h.head.cell 1 _ rfl
  have l2 := h.head.cell 2 _ rfl
  have hx0 : 0 ≤ x := by have := chk_le _ _ _ hok.2.2.2; have := hok.1; omega
  have hx1 := hok.2.1
  by_cases hc : ns.length = 4096
  · have l2' : w.cell? ⟨L, 2, none⟩ = some (.int .i64 ((ns.length : Nat) : Int)) := l2
    rw [hc] at l2'
    replace l2' : w.cell? ⟨L, 2, none⟩ = some (.int .i64 4096) := l2'
    clear l2 h hok hf
    go_enter Try.func36, Try.ntmps36
    go_wp2_with fail
    go_ret
    exact ⟨rfl, rfl⟩
  · have hf2 : 1099511627776 < x + k := by rcases hf with h1 | h1; exact absurd (by rw [List.length_map] at h1; exact h1) hc; exact h1
    have hc2 : ((ns.length : Int) == 4096) = false := by rw [beq_eq_false_iff_ne]; omega
    clear h hok hf hc
    go_enter Try.func36, Try.ntmps36
    go_wp2_with fail
    go_ret
    exact ⟨rfl, rfl⟩
set_option maxHeartbeats 8000000 in
theorem send_yes (B L : Nat) (u x k t : Int) (ns : List (Nat × PieceM)) (w : World) (h : DL w B L u x ns) (hB : B ≤ w.heap.size) (hok : bOK u x (ns.map Prod.snd)) (hk : 1 ≤ k ∧ k ≤ 65535) (hf : ¬ sdFull x k (ns.map Prod.snd)) :
    Calls Try.prog 36 #[.pointer (some ⟨L, 0, none⟩), .int .i64 k, .int .i64 t] w fun e w' => ∃ ns2, e = .returned (.bool true) ∧ DL w' B L u (x + k) ns2 ∧ ns2.map Prod.snd = ns.map Prod.snd ++ [newP x k t] ∧ Below B w w' := by
  obtain ⟨k1, k2⟩ := hk
  have l1 := h.head.cell 1 _ rfl
  have l2 := h.head.cell 2 _ rfl
  have l4 := h.head.cell 4 _ rfl
  have hx0 : 0 ≤ x := by have := chk_le _ _ _ hok.2.2.2; have := hok.1; omega
  have hx1 := hok.2.1
  have hlen : ns.length ≤ 4096 := by have := hok.2.2.1; rw [List.length_map] at this; exact this
  have hf1 : ¬ ns.length = 4096 := fun e => hf (.inl (by rw [List.length_map]; exact e))
  have hf2 : ¬ 1099511627776 < x + k := fun e => hf (.inr e)
  have hc2 : ((ns.length : Int) == 4096) = false := by rw [beq_eq_false_iff_ne]; omega
  have HLB := hide (h.lo L (by simp))
  have CP := hide (put_walk B L u x ns [] (newP x k t) w.drew (by rw [List.append_nil]; exact h.drew) hB (by rw [List.append_nil]; omega))
  clear h hok hf hf1
  go_enter Try.func36, Try.ntmps36
  go_upto_region 3 with fail
  have l1' : w.drew.cell? ⟨L, 1, none⟩ = some (.int .i64 x) := l1
  have l4' : w.drew.cell? ⟨L, 4, none⟩ = some (ptO (lstO none ns)) := l4
  clear l1 l2 l4
  refine region_tail 17 (by kernel_rfl) (by kernel_rfl) ?_
  obtain ⟨V, hVe⟩ : ∃ V, V = w.drew := ⟨_, rfl⟩
  have HBV : Hid (∀ W, Below B V W → Below B w W) := hide (fun W hW => below_drew (by rw [← hVe]; exact hW))
  rw [← hVe] at CP l1' l4' ⊢
  clear hVe
  simp only [List.take_succ_cons, List.take_zero, List.drop_succ_cons, List.drop_zero]
  repeat (first | go_big_quiet_skip | (go_big_quiet_want; go_big_quiet_op; go_big_quiet_on))
  refine wpQuiet_nil ?_
  clear l1' l4'
  go_wp2_with (go_at_call 48; refine CP.out.mono ?_; rintro e w3 ⟨rfl, hD3, hb3, hs3⟩; have l1 := hD3.head.cell 1 _ rfl; have lf := hD3.head.frozen)
  go_ret
  refine ⟨_, rfl, hD3.setx (x + k), by simp, (HBV.out _ hb3).setCell (p := ⟨L, 1, none⟩) HLB.out _⟩
end Go.Proofs.Ytddkcgngpclgfaa
