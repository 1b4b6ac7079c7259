/-
Contracts of functions of this seat.
-/
import Derived.Test.YtnnijikfppijfabRows
import Derived.WalkKit
import Derived.ProofKit
import Derived.OpenShut
import Derived.Test.YtnnijikfppijfabRto
namespace Go.Proofs.Ytnnijikfppijfab
open Go.ChangeShapes Go.WideShapes Go.ChangeAt Go.RowKit
set_option linter.unusedVariables false
set_option maxRecDepth 100000
/-- A number brought within bounds. -/
def wiB (n l h : Int) : Int := if n < l then l else if h < n then h else n
def smS (s ms : Int) (k : Bool) : Int := if k then s + (ms - s / 8) else 8 * ms
def smV (s v ms : Int) (k : Bool) : Int := if k then v - v / 4 + (if ms - s / 8 < 0 then -(ms - s / 8) else ms - s / 8) else 2 * ms
def smR (s v ms : Int) (k : Bool) : Int := wiB (smS s ms k / 8 + (if smV s v ms k = 0 then 1 else smV s v ms k)) 200 60000

theorem Within_walk (n l h : Int) (w : World) : Calls Try.prog 28 #[.int .i64 n, .int .i64 l, .int .i64 h] w fun e w' => e = .returned (.int .i64 (wiB n l h)) ∧ w' = w := by
  unfold wiB
  by_cases h1 : n < l
  · rw [if_pos h1]
    go_enter Try.func28, Try.ntmps28
    go_wp2
    go_ret
    exact ⟨rfl, rfl⟩
  · rw [if_neg h1]
    by_cases h2 : h < n
    · rw [if_pos h2]
      go_enter Try.func28, Try.ntmps28
      go_wp2
      go_ret
      exact ⟨rfl, rfl⟩
    · rw [if_neg h2]
      go_enter Try.func28, Try.ntmps28
      go_wp2
      go_ret
      exact ⟨rfl, rfl⟩
set_option maxHeartbeats 4000000 in
theorem specBackoff_bad (s v r : Int) (k : Bool) (h : rtoB s v r k = false) : ExCRto 9 #[.agg #[.int .i64 s, .int .i64 v, .int .i64 r, .bool k]] 0 0 0 false 1 := by
  intro w
  have CB := hide (fun W => l13OK_walk s v r k W)
  rw [h] at CB
  clear h
  have HB := hide (Bx.start w #[.int .i64 (s), .int .i64 (v), .int .i64 (r), .bool k] #[.int .i64 0, .int .i64 0, .int .i64 0, .bool false] 24)
  go_enter Try.func9, Try.ntmps9
  go_wp2_with fail
  generalize (w.alloc (.cells #[.int .i64 (s), .int .i64 (v), .int .i64 (r), .bool k] 24)).alloc (.cells #[.int .i64 0, .int .i64 0, .int .i64 0, .bool false] 24) = W at *
  refine (CB.out _).mono ?_
  rintro e w1 ⟨rfl, hb1⟩
  have HB1 := hide (HB.out.next hb1)
  clear HB hb1
  have k0 := HB1.out.2.1.cell 0 _ rfl; have k1 := HB1.out.2.1.cell 1 _ rfl; have k2 := HB1.out.2.1.cell 2 _ rfl; have k3 := HB1.out.2.1.cell 3 _ rfl; have r0 := HB1.out.2.2.cell 0 _ rfl; have r1 := HB1.out.2.2.cell 1 _ rfl; have r2 := HB1.out.2.2.cell 2 _ rfl; have r3 := HB1.out.2.2.cell 3 _ rfl
  have kf := HB1.out.2.1.frozen; have rf := HB1.out.2.2.frozen
  go_wp2_with fail
  refine Bx.four (P := fun X => bodyPost Try.prog Try.f9 _ _ _ X) (HB1.out) ?_
  intro W9 h9
  have r0 := h9.2.2.cell 0 _ rfl; have r1 := h9.2.2.cell 1 _ rfl; have r2 := h9.2.2.cell 2 _ rfl; have r3 := h9.2.2.cell 3 _ rfl
  exact bodyPost_ret (v := .tuple #[.agg #[.int .i64 (0), .int .i64 (0), .int .i64 (0), .bool false], .int .i64 1]) (by simp [results, Try.results9, go_sem, r0, r1, r2, r3]) rfl ⟨rfl, h9.1⟩
set_option maxHeartbeats 4000000 in
theorem specBackoff_ok (s v r : Int) (k : Bool) (hr : rtoB s v r k = true) : ExCRto 9 #[.agg #[.int .i64 s, .int .i64 v, .int .i64 r, .bool k]] s v (min (2 * r) 60000) k 0 := by
  intro w
  have CB := hide (fun W => l13OK_walk s v r k W)
  obtain ⟨⟨s0, s1⟩, ⟨v0, v1⟩, ⟨q0, q1⟩, hk⟩ := rtoB_iff.1 hr
  rw [hr] at CB
  clear hr hk
  have CW := hide (fun W => by have h := Within_walk (2 * r) 200 60000 W; rw [show wiB (2 * r) 200 60000 = min (2 * r) 60000 by unfold wiB; (repeat split) <;> omega] at h; exact h)
  have HB := hide (Bx.start w #[.int .i64 (s), .int .i64 (v), .int .i64 (r), .bool k] #[.int .i64 0, .int .i64 0, .int .i64 0, .bool false] 24)
  go_enter Try.func9, Try.ntmps9
  go_wp2_with fail
  generalize (w.alloc (.cells #[.int .i64 (s), .int .i64 (v), .int .i64 (r), .bool k] 24)).alloc (.cells #[.int .i64 0, .int .i64 0, .int .i64 0, .bool false] 24) = W at *
  refine (CB.out _).mono ?_
  rintro e w1 ⟨rfl, hb1⟩
  have HB1 := hide (HB.out.next hb1)
  clear HB hb1
  have k0 := HB1.out.2.1.cell 0 _ rfl; have k1 := HB1.out.2.1.cell 1 _ rfl; have k2 := HB1.out.2.1.cell 2 _ rfl; have k3 := HB1.out.2.1.cell 3 _ rfl; have r0 := HB1.out.2.2.cell 0 _ rfl; have r1 := HB1.out.2.2.cell 1 _ rfl; have r2 := HB1.out.2.2.cell 2 _ rfl; have r3 := HB1.out.2.2.cell 3 _ rfl
  have kf := HB1.out.2.1.frozen; have rf := HB1.out.2.2.frozen
  go_wp2_with fail
  refine (CW.out _).mono ?_
  rintro e w3 ⟨rfl, rfl⟩
  go_wp2_with fail
  refine Bx.four (P := fun X => bodyPost Try.prog Try.f9 _ _ _ X) (HB1.out.put 2 (.int .i64 (min (2 * r) 60000))) ?_
  intro W9 h9
  have r0 := h9.2.2.cell 0 _ rfl; have r1 := h9.2.2.cell 1 _ rfl; have r2 := h9.2.2.cell 2 _ rfl; have r3 := h9.2.2.cell 3 _ rfl
  exact bodyPost_ret (v := .tuple #[.agg #[.int .i64 (s), .int .i64 (v), .int .i64 (min (2 * r) 60000), .bool k], .int .i64 0]) (by simp [results, Try.results9, go_sem, r0, r1, r2, r3]) rfl ⟨rfl, h9.1⟩
theorem gsetb {W W' : World} {b : Nat} (h : W.grownBy W' (some b)) (i : Nat) (u : Value) : W.grownBy (W'.setCell ⟨b, i, none⟩ u) (some b) :=
  ⟨h.os, h.tape, h.output, by simpa using h.size, fun k hk hn => by rw [heap_setCell_other W' ⟨b, i, none⟩ k u (fun e => hn (by simp [e]))]; exact h.block k hk hn⟩
theorem grefl (w : World) (r : Option Nat) : w.grownBy w r := ⟨rfl, rfl, rfl, Nat.le_refl _, fun _ _ _ => rfl⟩
theorem gdrew {W W' : World} {r : Option Nat} (h : W.grownBy W' r) : W.grownBy W'.drew r := ⟨h.os, h.tape, h.output, h.size, h.block⟩
set_option maxHeartbeats 4000000 in
theorem implBackoff_bad (s v r : Int) (k : Bool) (h : rtoB s v r k = false) : ExCRto 11 #[.agg #[.int .i64 s, .int .i64 v, .int .i64 r, .bool k]] 0 0 0 false 1 := by
  intro w
  have CB := hide (fun W => validRto_walk s v r k W)
  rw [h] at CB
  clear h
  have HB := hide (Bx.start w #[.int .i64 (s), .int .i64 (v), .int .i64 (r), .bool k] #[.int .i64 0, .int .i64 0, .int .i64 0, .bool false] 24)
  go_enter Try.func11, Try.ntmps11
  go_wp2_with fail
  generalize (w.alloc (.cells #[.int .i64 (s), .int .i64 (v), .int .i64 (r), .bool k] 24)).alloc (.cells #[.int .i64 0, .int .i64 0, .int .i64 0, .bool false] 24) = W at *
  refine (CB.out _).mono ?_
  rintro e w1 ⟨rfl, hb1⟩
  have HB1 := hide (HB.out.next hb1)
  clear HB hb1
  have k0 := HB1.out.2.1.cell 0 _ rfl; have k1 := HB1.out.2.1.cell 1 _ rfl; have k2 := HB1.out.2.1.cell 2 _ rfl; have k3 := HB1.out.2.1.cell 3 _ rfl; have r0 := HB1.out.2.2.cell 0 _ rfl; have r1 := HB1.out.2.2.cell 1 _ rfl; have r2 := HB1.out.2.2.cell 2 _ rfl; have r3 := HB1.out.2.2.cell 3 _ rfl
  have kf := HB1.out.2.1.frozen; have rf := HB1.out.2.2.frozen
  go_wp2_with fail
  refine Bx.four (P := fun X => bodyPost Try.prog Try.f11 _ _ _ X) (HB1.out) ?_
  intro W9 h9
  have r0 := h9.2.2.cell 0 _ rfl; have r1 := h9.2.2.cell 1 _ rfl; have r2 := h9.2.2.cell 2 _ rfl; have r3 := h9.2.2.cell 3 _ rfl
  exact bodyPost_ret (v := .tuple #[.agg #[.int .i64 (0), .int .i64 (0), .int .i64 (0), .bool false], .int .i64 1]) (by simp [results, Try.results11, go_sem, r0, r1, r2, r3]) rfl ⟨rfl, h9.1⟩
set_option maxHeartbeats 4000000 in
theorem implBackoff_ok (s v r : Int) (k : Bool) (hr : rtoB s v r k = true) : ExCRto 11 #[.agg #[.int .i64 s, .int .i64 v, .int .i64 r, .bool k]] s v (min (2 * r) 60000) k 0 := by
  intro w
  have CB := hide (fun W => validRto_walk s v r k W)
  obtain ⟨⟨s0, s1⟩, ⟨v0, v1⟩, ⟨q0, q1⟩, hk⟩ := rtoB_iff.1 hr
  rw [hr] at CB
  clear hr hk
  have HB := hide (Bx.start w #[.int .i64 (s), .int .i64 (v), .int .i64 (r), .bool k] #[.int .i64 0, .int .i64 0, .int .i64 0, .bool false] 24)
  go_enter Try.func11, Try.ntmps11
  go_wp2_with fail
  generalize (w.alloc (.cells #[.int .i64 (s), .int .i64 (v), .int .i64 (r), .bool k] 24)).alloc (.cells #[.int .i64 0, .int .i64 0, .int .i64 0, .bool false] 24) = W at *
  refine (CB.out _).mono ?_
  rintro e w1 ⟨rfl, hb1⟩
  have HB1 := hide (HB.out.next hb1)
  clear HB hb1
  have k0 := HB1.out.2.1.cell 0 _ rfl; have k1 := HB1.out.2.1.cell 1 _ rfl; have k2 := HB1.out.2.1.cell 2 _ rfl; have k3 := HB1.out.2.1.cell 3 _ rfl; have r0 := HB1.out.2.2.cell 0 _ rfl; have r1 := HB1.out.2.2.cell 1 _ rfl; have r2 := HB1.out.2.2.cell 2 _ rfl; have r3 := HB1.out.2.2.cell 3 _ rfl
  have kf := HB1.out.2.1.frozen; have rf := HB1.out.2.2.frozen
  go_wp2_with fail
  refine Bx.four (P := fun X => bodyPost Try.prog Try.f11 _ _ _ X) (HB1.out.put 2 (.int .i64 (min (2 * r) 60000))) ?_
  intro W9 h9
  have r0 := h9.2.2.cell 0 _ rfl; have r1 := h9.2.2.cell 1 _ rfl; have r2 := h9.2.2.cell 2 _ rfl; have r3 := h9.2.2.cell 3 _ rfl
  exact bodyPost_ret (v := .tuple #[.agg #[.int .i64 (s), .int .i64 (v), .int .i64 (min (2 * r) 60000), .bool k], .int .i64 0]) (by simp [results, Try.results11, go_sem, r0, r1, r2, r3]) rfl ⟨rfl, h9.1⟩
end Go.Proofs.Ytnnijikfppijfab
