/-
Contracts of functions of this seat.
-/
import Derived.Test.YtcnfnimgpiaamaaDoorRows
import Derived.WalkKit
import Derived.ProofKit
import Derived.OpenShut
import Derived.Test.YtcnfnimgpiaamaaDoorSg4
import Derived.Laws.IdiomStrings
import Derived.RegionTactic
import Derived.Deep.RegionWith
namespace Go.Proofs.YtcnfnimgpiaamaaDoor
open Go.ChangeShapes Go.WideShapes Go.ChangeAt Go.RowKit
set_option linter.unusedVariables false
set_option maxRecDepth 100000
theorem bcell {W w1 : World} (hb : Below W.heap.size W w1) : (∀ b o, b < W.heap.size → w1.cell? ⟨b, o, none⟩ = W.cell? ⟨b, o, none⟩) ∧ (∀ b o, b < W.heap.size → w1.frozen? ⟨b, o, none⟩ = W.frozen? ⟨b, o, none⟩) :=
  ⟨fun b o h => hb.cell (p := ⟨b, o, none⟩) h, fun b o h => hb.frozen (p := ⟨b, o, none⟩) h⟩
/-- The digit's byte. -/
def dg (n : Int) : UInt8 := UInt8.ofNat (48 + n.toNat)
theorem conv1 (n : Int) (h0 : 0 ≤ n) (h1 : n < 10) (g : Nat) (w : World) (hc : w.cell? ⟨g, 0, none⟩ = some (.int .u8 (48 + n))) :
    (convert 23 9 (.slice (some ⟨g, 0, none⟩) 1 1)).run Tryd.prog w = .ok (.string ⟨#[dg n]⟩) w := by
  have h := run_convert_bytes_back (P := Tryd.prog) w 23 9 5 ⟨g, 0, none⟩ 1 [dg n] Tryd.underlying23 Tryd.underlying5 Tryd.underlying9 (by
    intro j hj
    match j, hj with
    | 0, _ =>
      rw [Addr.add_zero', hc]
      congr 2
      show 48 + n = ((UInt8.ofNat (48 + n.toNat)).toNat : Int)
      rw [UInt8.toNat_ofNat']
      omega)
  exact h
theorem dec_small (n : Int) (w : World) (h0 : 0 ≤ n) (h1 : n < 10) :
    Calls Tryd.prog 27 #[.int .i64 n] w fun e w' => e = .returned (.string ⟨#[dg n]⟩) ∧ Below w.heap.size w w' := by
  have hconv := conv1 n h0 h1
  go_enter Tryd.func27, Tryd.ntmps27
  go_wp2
  go_ret
  exact ⟨rfl, (Below.refl _ _).alloc (Nat.le_refl _) _⟩
/-- The text of a number below 1000. -/
def decL (n : Int) : Array UInt8 :=
  if n < 10 then #[dg n] else if n < 100 then #[dg (n / 10), dg (n % 10)] else #[dg (n / 100), dg (n / 10 % 10), dg (n % 10)]
theorem decL_one {n : Int} (h : n < 10) : decL n = #[dg n] := by unfold decL; rw [if_pos h]
theorem decL_more {n : Int} (h0 : 10 ≤ n) (h : n < 1000) : (⟨decL (n / 10)⟩ : ByteArray) ++ (⟨#[dg (n % 10)]⟩ : ByteArray) = ⟨decL n⟩ := by
  unfold decL
  by_cases h1 : n < 100
  · rw [if_pos (by omega), if_neg (by omega), if_pos h1]; rfl
  · rw [if_neg (by omega), if_pos (by omega), if_neg (by omega), if_neg h1]
    rw [show n / 10 / 10 = n / 100 by omega]; rfl
theorem decL_size {n : Int} : (⟨decL n⟩ : ByteArray).size ≤ 3 := by
  unfold decL
  split
  · show 1 ≤ 3; decide
  · split
    · show 2 ≤ 3; decide
    · show 3 ≤ 3; decide
set_option maxHeartbeats 400000 in
theorem dec_step (n : Int) (w : World) (t r : ByteArray) (ht : t.size ≤ 3) (h0 : 10 ≤ n) (h1 : n < 1000) (ih : ∀ w, Calls Tryd.prog 27 #[.int .i64 (n / 10)] w fun e w' => e = .returned (.string t) ∧ Below w.heap.size w w') (hr : t ++ (⟨#[dg (n % 10)]⟩ : ByteArray) = r) :
    Calls Tryd.prog 27 #[.int .i64 n] w fun e w' => e = .returned (.string r) ∧ Below w.heap.size w w' := by
  have hconv := conv1 (n % 10) (by omega) (by omega)
  have hd : (⟨#[dg (n % 10)]⟩ : ByteArray).size = 1 := rfl
  generalize (⟨#[dg (n % 10)]⟩ : ByteArray) = d at *
  have hds : d.size ≤ 1 := by omega
  have e1 : IntKind.i64.wrap (n.tdiv 10) = n / 10 := by rw [Int.tdiv_eq_ediv_of_nonneg (by omega)]; exact wrap_i64' _ (by omega) (by omega)
  have e2 : n.tmod 10 = n % 10 := Int.tmod_eq_emod_of_nonneg (by omega)
  have e3 : IntKind.i64.wrap (48 + n % 10) = 48 + n % 10 := wrap_i64' _ (by omega) (by omega)
  have e4 : IntKind.u8.wrap (48 + n % 10) = 48 + n % 10 := by rw [IntKind.wrap_u8]; omega
  have IH := hide ih
  have HR := hide hr
  clear ih hr hd
  go_enter Tryd.func27, Tryd.ntmps27
  go_wp2_with fail
  go_region_with (first | (go_at_call 27; refine (IH.out _).mono ?_; rintro e w' ⟨rfl, hbel⟩; obtain ⟨hcc, hff⟩ := bcell hbel))
  all_goals
    go_wp2
    go_ret
    refine ⟨by rw [← HR.out]; rfl, ?_⟩
    first
      | exact Below.alloc (w := w') (show Below w.heap.size w w' from below_undrew hbel) hbel.size _
      | exact Below.trans ((Below.refl w.heap.size w).alloc (Nat.le_refl _) (.cells #[.int .u8 (48 + n % 10)] 5)) ((show Below (w.alloc (.cells #[.int .u8 (48 + n % 10)] 5)).heap.size (w.alloc (.cells #[.int .u8 (48 + n % 10)] 5)) w' from below_undrew hbel).mono (by rw [World.size_alloc]; omega))
theorem dec_walk (n : Int) (w : World) (h0 : 0 ≤ n) (h1 : n < 1000) :
    Calls Tryd.prog 27 #[.int .i64 n] w fun e w' => e = .returned (.string ⟨decL n⟩) ∧ Below w.heap.size w w' := by
  have one : ∀ (n : Int) (w : World), 0 ≤ n → n < 10 → Calls Tryd.prog 27 #[.int .i64 n] w fun e w' => e = .returned (.string ⟨decL n⟩) ∧ Below w.heap.size w w' := fun n w a b => by
    have h := dec_small n w a b
    rw [← decL_one b] at h; exact h
  have two : ∀ (n : Int) (w : World), 0 ≤ n → n < 100 → Calls Tryd.prog 27 #[.int .i64 n] w fun e w' => e = .returned (.string ⟨decL n⟩) ∧ Below w.heap.size w w' := fun n w a b => by
    by_cases h : n < 10
    · exact one n w a h
    · exact dec_step n w ⟨decL (n / 10)⟩ ⟨decL n⟩ decL_size (by omega) (by omega) (fun w => one (n / 10) w (by omega) (by omega)) (decL_more (by omega) (by omega))
  by_cases h : n < 10
  · exact one n w h0 h
  · exact dec_step n w ⟨decL (n / 10)⟩ ⟨decL n⟩ decL_size (by omega) h1 (fun w => two (n / 10) w (by omega) (by omega)) (decL_more (by omega) h1)

/-- The text of a number. -/
def decG (n : Nat) : ByteArray := if h : n < 10 then ⟨#[dg (n : Int)]⟩ else decG (n / 10) ++ (⟨#[dg ((n : Int) % 10)]⟩ : ByteArray)
termination_by n
decreasing_by omega
theorem decG_small (n : Nat) (h : n < 10) : decG n = ⟨#[dg (n : Int)]⟩ := by rw [decG]; exact dif_pos h
theorem decG_big (n : Nat) (h : ¬ n < 10) : decG n = decG (n / 10) ++ (⟨#[dg ((n : Int) % 10)]⟩ : ByteArray) := by rw [decG]; exact dif_neg h
theorem decG_size : ∀ (k n : Nat), n < 10 ^ (k + 1) → (decG n).size ≤ k + 1
  | 0, n, h => by rw [decG_small n (by simpa using h)]; show 1 ≤ 1; exact Nat.le_refl _
  | k + 1, n, h => by
    by_cases hn : n < 10
    · rw [decG_small n hn]; show 1 ≤ _; omega
    · rw [decG_big n hn, ByteArray.size_append]
      have := decG_size k (n / 10) (by rw [Nat.pow_succ] at h; omega)
      have e : (⟨#[dg ((n : Int) % 10)]⟩ : ByteArray).size = 1 := rfl
      omega
set_option maxHeartbeats 400000 in
theorem dec_stepG (n : Int) (w : World) (t r : ByteArray) (ht : t.size ≤ 30) (h0 : 10 ≤ n) (h1 : n < 1000000000000000000) (ih : ∀ w, Calls Tryd.prog 27 #[.int .i64 (n / 10)] w fun e w' => e = .returned (.string t) ∧ Below w.heap.size w w') (hr : t ++ (⟨#[dg (n % 10)]⟩ : ByteArray) = r) :
    Calls Tryd.prog 27 #[.int .i64 n] w fun e w' => e = .returned (.string r) ∧ Below w.heap.size w w' := by
  have hconv := conv1 (n % 10) (by omega) (by omega)
  have hd : (⟨#[dg (n % 10)]⟩ : ByteArray).size = 1 := rfl
  generalize (⟨#[dg (n % 10)]⟩ : ByteArray) = d at *
  have hds : d.size ≤ 1 := by omega
  have e1 : IntKind.i64.wrap (n.tdiv 10) = n / 10 := by rw [Int.tdiv_eq_ediv_of_nonneg (by omega)]; exact wrap_i64' _ (by omega) (by omega)
  have e2 : n.tmod 10 = n % 10 := Int.tmod_eq_emod_of_nonneg (by omega)
  have e3 : IntKind.i64.wrap (48 + n % 10) = 48 + n % 10 := wrap_i64' _ (by omega) (by omega)
  have e4 : IntKind.u8.wrap (48 + n % 10) = 48 + n % 10 := by rw [IntKind.wrap_u8]; omega
  have IH := hide ih
  have HR := hide hr
  clear ih hr hd
  go_enter Tryd.func27, Tryd.ntmps27
  go_wp2_with fail
  go_region_with (first | (go_at_call 27; refine (IH.out _).mono ?_; rintro e w' ⟨rfl, hbel⟩; obtain ⟨hcc, hff⟩ := bcell hbel))
  all_goals
    go_wp2
    go_ret
    refine ⟨by rw [← HR.out]; rfl, ?_⟩
    first
      | exact Below.alloc (w := w') (show Below w.heap.size w w' from below_undrew hbel) hbel.size _
      | exact Below.trans ((Below.refl w.heap.size w).alloc (Nat.le_refl _) (.cells #[.int .u8 (48 + n % 10)] 5)) ((show Below (w.alloc (.cells #[.int .u8 (48 + n % 10)] 5)).heap.size (w.alloc (.cells #[.int .u8 (48 + n % 10)] 5)) w' from below_undrew hbel).mono (by rw [World.size_alloc]; omega))
theorem decG_walk : ∀ (k n : Nat), n < 10 ^ (k + 1) → k < 18 → ∀ w : World, Calls Tryd.prog 27 #[.int .i64 (n : Int)] w fun e w' => e = .returned (.string (decG n)) ∧ Below w.heap.size w w'
  | 0, n, h, _, w => by
    have hn : n < 10 := by simpa using h
    rw [decG_small n hn]
    exact dec_small n w (by omega) (by omega)
  | k + 1, n, h, hk, w => by
    by_cases hn : n < 10
    · rw [decG_small n hn]
      exact dec_small n w (by omega) (by omega)
    · have hl : n / 10 < 10 ^ (k + 1) := by rw [Nat.pow_succ] at h; omega
      have hb : (10 : Nat) ^ (k + 1 + 1) ≤ 10 ^ 18 := Nat.pow_le_pow_right (by omega) (by omega)
      have hb2 : n < 1000000000000000000 := by have : (10 : Nat) ^ 18 = 1000000000000000000 := by decide
                                               omega
      refine dec_stepG (n : Int) w (decG (n / 10)) (decG n) (by have := decG_size k (n / 10) hl; omega) (by omega) (by omega) ?_ (by rw [decG_big n hn])
      intro w'
      have := decG_walk k (n / 10) hl (by omega) w'
      rw [show ((n / 10 : Nat) : Int) = (n : Int) / 10 by omega] at this
      exact this
end Go.Proofs.YtcnfnimgpiaamaaDoor
