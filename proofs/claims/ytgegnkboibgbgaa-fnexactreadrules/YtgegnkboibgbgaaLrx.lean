/-
Contracts of functions of this seat.
-/
import Derived.Test.YtgegnkboibgbgaaRows
import Derived.WalkKit
import Derived.ProofKit
import Derived.OpenShut
import Derived.Test.YtgegnkboibgbgaaRt0
namespace Go.Proofs.Ytgegnkboibgbgaa
open Go.ChangeShapes Go.WideShapes Go.ChangeAt Go.RowKit
set_option linter.unusedVariables false
set_option maxRecDepth 100000
set_option maxHeartbeats 4000000 in
theorem eqRule_walk (z0 z1 z2 z3 z4 z5 z6 z7 z8 z9 z10 z11 : Int) (w : World) :
    Calls Try.prog 23 #[.agg #[.int .i64 z0, .int .i64 z1, .int .i64 z2, .int .i64 z3, .int .i64 z4, .int .i64 z5, .int .i64 z6, .int .i64 z7, .int .i64 z8, .int .i64 z9, .int .i64 z10, .int .i64 z11], .agg #[.int .i64 z0, .int .i64 z1, .int .i64 z2, .int .i64 z3, .int .i64 z4, .int .i64 z5, .int .i64 z6, .int .i64 z7, .int .i64 z8, .int .i64 z9, .int .i64 z10, .int .i64 z11]] w fun e w' => e = .returned (.bool true) ∧ Below w.heap.size w w' := by
  have HB := hide (two_allocs w (.cells #[.int .i64 z0, .int .i64 z1, .int .i64 z2, .int .i64 z3, .int .i64 z4, .int .i64 z5, .int .i64 z6, .int .i64 z7, .int .i64 z8, .int .i64 z9, .int .i64 z10, .int .i64 z11] 45) (.cells #[.int .i64 z0, .int .i64 z1, .int .i64 z2, .int .i64 z3, .int .i64 z4, .int .i64 z5, .int .i64 z6, .int .i64 z7, .int .i64 z8, .int .i64 z9, .int .i64 z10, .int .i64 z11] 45))
  go_enter Try.func23, Try.ntmps23
  have HA0 : Hid (HoldV ((w.alloc (.cells #[.int .i64 z0, .int .i64 z1, .int .i64 z2, .int .i64 z3, .int .i64 z4, .int .i64 z5, .int .i64 z6, .int .i64 z7, .int .i64 z8, .int .i64 z9, .int .i64 z10, .int .i64 z11] 45)).alloc (.cells #[.int .i64 z0, .int .i64 z1, .int .i64 z2, .int .i64 z3, .int .i64 z4, .int .i64 z5, .int .i64 z6, .int .i64 z7, .int .i64 z8, .int .i64 z9, .int .i64 z10, .int .i64 z11] 45)) w.heap.size #[.int .i64 z0, .int .i64 z1, .int .i64 z2, .int .i64 z3, .int .i64 z4, .int .i64 z5, .int .i64 z6, .int .i64 z7, .int .i64 z8, .int .i64 z9, .int .i64 z10, .int .i64 z11] 45) := hide HB.out.2.1
  have HC0 : Hid (HoldV ((w.alloc (.cells #[.int .i64 z0, .int .i64 z1, .int .i64 z2, .int .i64 z3, .int .i64 z4, .int .i64 z5, .int .i64 z6, .int .i64 z7, .int .i64 z8, .int .i64 z9, .int .i64 z10, .int .i64 z11] 45)).alloc (.cells #[.int .i64 z0, .int .i64 z1, .int .i64 z2, .int .i64 z3, .int .i64 z4, .int .i64 z5, .int .i64 z6, .int .i64 z7, .int .i64 z8, .int .i64 z9, .int .i64 z10, .int .i64 z11] 45)) (w.heap.size + 1) #[.int .i64 z0, .int .i64 z1, .int .i64 z2, .int .i64 z3, .int .i64 z4, .int .i64 z5, .int .i64 z6, .int .i64 z7, .int .i64 z8, .int .i64 z9, .int .i64 z10, .int .i64 z11] 45) := hide HB.out.2.2
  have HBE0 := hide HB.out.1
  clear HB
  go_wp2_with fail
  generalize hW : (w.alloc (.cells #[.int .i64 z0, .int .i64 z1, .int .i64 z2, .int .i64 z3, .int .i64 z4, .int .i64 z5, .int .i64 z6, .int .i64 z7, .int .i64 z8, .int .i64 z9, .int .i64 z10, .int .i64 z11] 45)).alloc (.cells #[.int .i64 z0, .int .i64 z1, .int .i64 z2, .int .i64 z3, .int .i64 z4, .int .i64 z5, .int .i64 z6, .int .i64 z7, .int .i64 z8, .int .i64 z9, .int .i64 z10, .int .i64 z11] 45) = W0 at *
  clear hW
  refine (eqPrefix_walk z3 z4 W0).mono ?_
  rintro e W1 ⟨rfl, hb1⟩
  have HA1 := hide (HA0.out.next hb1)
  have HC1 := hide (HC0.out.next hb1)
  have HBE1 := hide (HBE0.out.trans (hb1.mono HBE0.out.size))
  clear hb1 HA0 HC0 HBE0
  have a0_5 := HA1.out.cell 5 _ rfl
  have a0_6 := HA1.out.cell 6 _ rfl
  have a0_7 := HA1.out.cell 7 _ rfl
  have a0_8 := HA1.out.cell 8 _ rfl
  have c0_5 := HC1.out.cell 5 _ rfl
  have c0_6 := HC1.out.cell 6 _ rfl
  have c0_7 := HC1.out.cell 7 _ rfl
  have c0_8 := HC1.out.cell 8 _ rfl
  go_wp2_with fail
  refine (eqPrefix_walk z7 z8 W1).mono ?_
  rintro e W2 ⟨rfl, hb1⟩
  have HA2 := hide (HA1.out.next hb1)
  have HC2 := hide (HC1.out.next hb1)
  have HBE2 := hide (HBE1.out.trans (hb1.mono HBE1.out.size))
  clear hb1 HA1 HC1 HBE1
  have a1_9 := HA2.out.cell 9 _ rfl
  have a1_10 := HA2.out.cell 10 _ rfl
  have a1_11 := HA2.out.cell 11 _ rfl
  have c1_9 := HC2.out.cell 9 _ rfl
  have c1_10 := HC2.out.cell 10 _ rfl
  have c1_11 := HC2.out.cell 11 _ rfl
  go_wp2_with fail
  go_ret
  exact ⟨rfl, HBE2.out⟩
set_option maxHeartbeats 1000000 in
theorem markRule_some (g off cap n B : Nat) (zs : List Int) (k : Nat) (w : World) (h : OwnI w B 45 12 (.slice (some ⟨g, off, none⟩) n cap) n zs) (hm : n ≤ 2097152) (hk : k ≤ 1073741824) :
    Calls Try.prog 13 #[.slice (some ⟨g, off, none⟩) n cap, .int .i64 (k : Int)] w fun e w' => e = .returned (.int .i64 ((k : Int) + 12 * (n : Int))) ∧ OwnI w' B 45 12 (.slice (some ⟨g, off, none⟩) n cap) n (mksI k (n * 12)) ∧ w.grownBy w' (some g) := by
  have HN : Hid (zs.length = n * 12) := hide (by have := h.len; omega)
  have HO := hide h
  clear h
  have hr : w.grownBy w (some g) := World.grownBy.refl _ _
  go_enter Try.func13, Try.ntmps13
  go_wp2_with fail
  go_loopw [1, 5] (fun s t w2 => ∃ i : Nat, i ≤ n ∧ s = .int .i64 ((k : Int) + 12 * (i : Int)) ∧ t = .int .i64 i ∧ Hid (OwnI w2 B 45 12 (.slice (some ⟨g, off, none⟩) n cap) n (mkdI k zs (i * 12))) ∧ w.grownBy w2 (some g)) (fun _ t _ => n - (intOf t).toNat)
  case atStart => exact ⟨0, Nat.zero_le _, by go_num, rfl, hide (by rw [Nat.zero_mul, mkdI_zero]; exact HO.out), hr⟩
  case round =>
    obtain ⟨i, hi, rfl, rfl, HO2, hg⟩ := hrel
    by_cases hlt : i < n
    · have HLN : Hid (i * 12 + 12 ≤ zs.length) := hide (by rw [HN.out]; omega)
      obtain ⟨o0, c0⟩ : ∃ o, wr.cell? ⟨g, off + i * 12, none⟩ = some o := ⟨_, HO2.out.cell (i * 12) (by rw [mkdI_len _ _ _ (by have := HLN.out; omega)]; have := HLN.out; omega)⟩
      obtain ⟨o1, c1⟩ : ∃ o, wr.cell? ⟨g, off + i * 12 + 1, none⟩ = some o := ⟨_, by rw [Nat.add_assoc]; exact HO2.out.cell (i * 12 + 1) (by rw [mkdI_len _ _ _ (by have := HLN.out; omega)]; have := HLN.out; omega)⟩
      obtain ⟨o2, c2⟩ : ∃ o, wr.cell? ⟨g, off + i * 12 + 2, none⟩ = some o := ⟨_, by rw [Nat.add_assoc]; exact HO2.out.cell (i * 12 + 2) (by rw [mkdI_len _ _ _ (by have := HLN.out; omega)]; have := HLN.out; omega)⟩
      obtain ⟨o3, c3⟩ : ∃ o, wr.cell? ⟨g, off + i * 12 + 3, none⟩ = some o := ⟨_, by rw [Nat.add_assoc]; exact HO2.out.cell (i * 12 + 3) (by rw [mkdI_len _ _ _ (by have := HLN.out; omega)]; have := HLN.out; omega)⟩
      obtain ⟨o4, c4⟩ : ∃ o, wr.cell? ⟨g, off + i * 12 + 4, none⟩ = some o := ⟨_, by rw [Nat.add_assoc]; exact HO2.out.cell (i * 12 + 4) (by rw [mkdI_len _ _ _ (by have := HLN.out; omega)]; have := HLN.out; omega)⟩
      obtain ⟨o5, c5⟩ : ∃ o, wr.cell? ⟨g, off + i * 12 + 5, none⟩ = some o := ⟨_, by rw [Nat.add_assoc]; exact HO2.out.cell (i * 12 + 5) (by rw [mkdI_len _ _ _ (by have := HLN.out; omega)]; have := HLN.out; omega)⟩
      obtain ⟨o6, c6⟩ : ∃ o, wr.cell? ⟨g, off + i * 12 + 6, none⟩ = some o := ⟨_, by rw [Nat.add_assoc]; exact HO2.out.cell (i * 12 + 6) (by rw [mkdI_len _ _ _ (by have := HLN.out; omega)]; have := HLN.out; omega)⟩
      obtain ⟨o7, c7⟩ : ∃ o, wr.cell? ⟨g, off + i * 12 + 7, none⟩ = some o := ⟨_, by rw [Nat.add_assoc]; exact HO2.out.cell (i * 12 + 7) (by rw [mkdI_len _ _ _ (by have := HLN.out; omega)]; have := HLN.out; omega)⟩
      obtain ⟨o8, c8⟩ : ∃ o, wr.cell? ⟨g, off + i * 12 + 8, none⟩ = some o := ⟨_, by rw [Nat.add_assoc]; exact HO2.out.cell (i * 12 + 8) (by rw [mkdI_len _ _ _ (by have := HLN.out; omega)]; have := HLN.out; omega)⟩
      obtain ⟨o9, c9⟩ : ∃ o, wr.cell? ⟨g, off + i * 12 + 9, none⟩ = some o := ⟨_, by rw [Nat.add_assoc]; exact HO2.out.cell (i * 12 + 9) (by rw [mkdI_len _ _ _ (by have := HLN.out; omega)]; have := HLN.out; omega)⟩
      obtain ⟨o10, c10⟩ : ∃ o, wr.cell? ⟨g, off + i * 12 + 10, none⟩ = some o := ⟨_, by rw [Nat.add_assoc]; exact HO2.out.cell (i * 12 + 10) (by rw [mkdI_len _ _ _ (by have := HLN.out; omega)]; have := HLN.out; omega)⟩
      obtain ⟨o11, c11⟩ : ∃ o, wr.cell? ⟨g, off + i * 12 + 11, none⟩ = some o := ⟨_, by rw [Nat.add_assoc]; exact HO2.out.cell (i * 12 + 11) (by rw [mkdI_len _ _ _ (by have := HLN.out; omega)]; have := HLN.out; omega)⟩
      have hz : ∀ o, wr.frozen? ⟨g, o, none⟩ = false := HO2.out.frozen
      go_wp2_with fail
      have h0 := HO2.out.mark (j := i * 12) (z := (k : Int) + 12 * (i : Int)) (by have := HLN.out; omega) (by omega)
      have h1 := h0.1.mark (j := i * 12 + 1) (z := (k : Int) + 12 * (i : Int) + 1) (by have := HLN.out; omega) (by omega)
      rw [← Nat.add_assoc] at h1
      have h2 := h1.1.mark (j := i * 12 + 2) (z := (k : Int) + 12 * (i : Int) + 1 + 1) (by have := HLN.out; omega) (by omega)
      rw [← Nat.add_assoc] at h2
      have h3 := h2.1.mark (j := i * 12 + 3) (z := (k : Int) + 12 * (i : Int) + 1 + 1 + 1) (by have := HLN.out; omega) (by omega)
      rw [← Nat.add_assoc] at h3
      have h4 := h3.1.mark (j := i * 12 + 4) (z := (k : Int) + 12 * (i : Int) + 1 + 1 + 1 + 1) (by have := HLN.out; omega) (by omega)
      rw [← Nat.add_assoc] at h4
      have h5 := h4.1.mark (j := i * 12 + 5) (z := (k : Int) + 12 * (i : Int) + 1 + 1 + 1 + 1 + 1) (by have := HLN.out; omega) (by omega)
      rw [← Nat.add_assoc] at h5
      have h6 := h5.1.mark (j := i * 12 + 6) (z := (k : Int) + 12 * (i : Int) + 1 + 1 + 1 + 1 + 1 + 1) (by have := HLN.out; omega) (by omega)
      rw [← Nat.add_assoc] at h6
      have h7 := h6.1.mark (j := i * 12 + 7) (z := (k : Int) + 12 * (i : Int) + 1 + 1 + 1 + 1 + 1 + 1 + 1) (by have := HLN.out; omega) (by omega)
      rw [← Nat.add_assoc] at h7
      have h8 := h7.1.mark (j := i * 12 + 8) (z := (k : Int) + 12 * (i : Int) + 1 + 1 + 1 + 1 + 1 + 1 + 1 + 1) (by have := HLN.out; omega) (by omega)
      rw [← Nat.add_assoc] at h8
      have h9 := h8.1.mark (j := i * 12 + 9) (z := (k : Int) + 12 * (i : Int) + 1 + 1 + 1 + 1 + 1 + 1 + 1 + 1 + 1) (by have := HLN.out; omega) (by omega)
      rw [← Nat.add_assoc] at h9
      have h10 := h9.1.mark (j := i * 12 + 10) (z := (k : Int) + 12 * (i : Int) + 1 + 1 + 1 + 1 + 1 + 1 + 1 + 1 + 1 + 1) (by have := HLN.out; omega) (by omega)
      rw [← Nat.add_assoc] at h10
      have h11 := h10.1.mark (j := i * 12 + 11) (z := (k : Int) + 12 * (i : Int) + 1 + 1 + 1 + 1 + 1 + 1 + 1 + 1 + 1 + 1 + 1) (by have := HLN.out; omega) (by omega)
      rw [← Nat.add_assoc] at h11
      exact ⟨⟨i + 1, by omega, by go_num, by go_num, hide (by rw [show (i + 1) * 12 = i * 12 + 11 + 1 by omega]; exact h11.1), grown_trans (grown_trans (grown_trans (grown_trans (grown_trans (grown_trans (grown_trans (grown_trans (grown_trans (grown_trans (grown_trans (grown_trans (hg) h0.2) h1.2) h2.2) h3.2) h4.2) h5.2) h6.2) h7.2) h8.2) h9.2) h10.2) h11.2⟩, by simp [intOf]; omega⟩
    · have hi' : i = n := by omega
      subst hi'
      have HE : Hid (mkdI k zs (i * 12) = mksI k (i * 12)) := hide (mkdI_end k zs _ HN.out)
      go_wp2_with fail
      go_ret
      exact ⟨rfl, by rw [← HE.out]; exact HO2.out, hg⟩
theorem markRule_nil (k : Nat) (w : World) (hk : k ≤ 1073741824) :
    Calls Try.prog 13 #[.slice none 0 0, .int .i64 (k : Int)] w fun e w' => e = .returned (.int .i64 (k : Int)) ∧ w' = w := by
  go_enter Try.func13, Try.ntmps13
  go_wp2_with fail
  go_loop [1, 5] (fun s t => s = .int .i64 (k : Int) ∧ t = .int .i64 0) (fun _ _ => 0)
  case atStart => exact ⟨rfl, rfl⟩
  case round =>
    obtain ⟨rfl, rfl⟩ := hrel
    go_wp2_with fail
    go_ret
    exact ⟨rfl, rfl⟩
theorem markRule_walk (v : Value) (B n : Nat) (zs : List Int) (k : Nat) (w : World) (h : OwnI w B 45 12 v n zs) (hm : n ≤ 2097152) (hk : k ≤ 1073741824) :
    Calls Try.prog 13 #[v, .int .i64 (k : Int)] w fun e w' => e = .returned (.int .i64 ((k : Int) + 12 * (n : Int))) ∧ OwnI w' B 45 12 v n (mksI k (n * 12)) ∧ w.grownBy w' v.ownBlock := by
  rcases h.form with ⟨rfl, rfl⟩ | ⟨g, off, cap, rfl, _⟩
  · refine (markRule_nil k w hk).mono ?_
    rintro e w' ⟨rfl, rfl⟩
    exact ⟨by simp, by simpa [mksI] using OwnI.nil w' B 45 12, World.grownBy.refl _ _⟩
  · exact markRule_some g off cap n B zs k w h hm hk

set_option maxHeartbeats 1000000 in
theorem heldRule_walk (a : Option Addr) (n cap k : Nat) (w : World) (h : ArrI w a (mksI k (n * 12))) (hm : n ≤ 2097152) (hk : k ≤ 1073741824) :
    Calls Try.prog 14 #[.slice a n cap, .int .i64 (k : Int)] w fun e w' => e = .returned (.int .i64 ((k : Int) + 12 * (n : Int))) ∧ w' = w := by
  have HA := hide h
  clear h
  go_enter Try.func14, Try.ntmps14
  go_wp2_with fail
  go_loop [1, 5] (fun s t => ∃ i : Nat, i ≤ n ∧ s = .int .i64 ((k : Int) + 12 * (i : Int)) ∧ t = .int .i64 i) (fun _ t => n - (intOf t).toNat)
  case atStart => exact ⟨0, Nat.zero_le _, by go_num, rfl⟩
  case round =>
    obtain ⟨i, hi, rfl, rfl⟩ := hrel
    by_cases hlt : i < n
    · have hlt2 : i * 12 + 12 ≤ n * 12 := by omega
      obtain ⟨b, off, rfl, hb0, c0⟩ := HA.out (i * 12) (by rw [mksI_len]; omega)
      rw [mksI_get _ _ _ (by omega)] at c0
      have c1 : w.cell? ⟨b, off + (i * 12 + 1), none⟩ = some (.int .i64 ((k : Int) + 12 * (i : Int) + 1)) := by
        obtain ⟨b', o', e, _, c⟩ := HA.out (i * 12 + 1) (by rw [mksI_len]; omega)
        cases e
        rw [mksI_get _ _ _ (by omega), show (k : Int) + ((i * 12 + 1 : Nat) : Int) = (k : Int) + 12 * (i : Int) + 1 by omega] at c
        exact c
      rw [← Nat.add_assoc] at c1
      have c2 : w.cell? ⟨b, off + (i * 12 + 2), none⟩ = some (.int .i64 ((k : Int) + 12 * (i : Int) + 1 + 1)) := by
        obtain ⟨b', o', e, _, c⟩ := HA.out (i * 12 + 2) (by rw [mksI_len]; omega)
        cases e
        rw [mksI_get _ _ _ (by omega), show (k : Int) + ((i * 12 + 2 : Nat) : Int) = (k : Int) + 12 * (i : Int) + 1 + 1 by omega] at c
        exact c
      rw [← Nat.add_assoc] at c2
      have c3 : w.cell? ⟨b, off + (i * 12 + 3), none⟩ = some (.int .i64 ((k : Int) + 12 * (i : Int) + 1 + 1 + 1)) := by
        obtain ⟨b', o', e, _, c⟩ := HA.out (i * 12 + 3) (by rw [mksI_len]; omega)
        cases e
        rw [mksI_get _ _ _ (by omega), show (k : Int) + ((i * 12 + 3 : Nat) : Int) = (k : Int) + 12 * (i : Int) + 1 + 1 + 1 by omega] at c
        exact c
      rw [← Nat.add_assoc] at c3
      have c4 : w.cell? ⟨b, off + (i * 12 + 4), none⟩ = some (.int .i64 ((k : Int) + 12 * (i : Int) + 1 + 1 + 1 + 1)) := by
        obtain ⟨b', o', e, _, c⟩ := HA.out (i * 12 + 4) (by rw [mksI_len]; omega)
        cases e
        rw [mksI_get _ _ _ (by omega), show (k : Int) + ((i * 12 + 4 : Nat) : Int) = (k : Int) + 12 * (i : Int) + 1 + 1 + 1 + 1 by omega] at c
        exact c
      rw [← Nat.add_assoc] at c4
      have c5 : w.cell? ⟨b, off + (i * 12 + 5), none⟩ = some (.int .i64 ((k : Int) + 12 * (i : Int) + 1 + 1 + 1 + 1 + 1)) := by
        obtain ⟨b', o', e, _, c⟩ := HA.out (i * 12 + 5) (by rw [mksI_len]; omega)
        cases e
        rw [mksI_get _ _ _ (by omega), show (k : Int) + ((i * 12 + 5 : Nat) : Int) = (k : Int) + 12 * (i : Int) + 1 + 1 + 1 + 1 + 1 by omega] at c
        exact c
      rw [← Nat.add_assoc] at c5
      have c6 : w.cell? ⟨b, off + (i * 12 + 6), none⟩ = some (.int .i64 ((k : Int) + 12 * (i : Int) + 1 + 1 + 1 + 1 + 1 + 1)) := by
        obtain ⟨b', o', e, _, c⟩ := HA.out (i * 12 + 6) (by rw [mksI_len]; omega)
        cases e
        rw [mksI_get _ _ _ (by omega), show (k : Int) + ((i * 12 + 6 : Nat) : Int) = (k : Int) + 12 * (i : Int) + 1 + 1 + 1 + 1 + 1 + 1 by omega] at c
        exact c
      rw [← Nat.add_assoc] at c6
      have c7 : w.cell? ⟨b, off + (i * 12 + 7), none⟩ = some (.int .i64 ((k : Int) + 12 * (i : Int) + 1 + 1 + 1 + 1 + 1 + 1 + 1)) := by
        obtain ⟨b', o', e, _, c⟩ := HA.out (i * 12 + 7) (by rw [mksI_len]; omega)
        cases e
        rw [mksI_get _ _ _ (by omega), show (k : Int) + ((i * 12 + 7 : Nat) : Int) = (k : Int) + 12 * (i : Int) + 1 + 1 + 1 + 1 + 1 + 1 + 1 by omega] at c
        exact c
      rw [← Nat.add_assoc] at c7
      have c8 : w.cell? ⟨b, off + (i * 12 + 8), none⟩ = some (.int .i64 ((k : Int) + 12 * (i : Int) + 1 + 1 + 1 + 1 + 1 + 1 + 1 + 1)) := by
        obtain ⟨b', o', e, _, c⟩ := HA.out (i * 12 + 8) (by rw [mksI_len]; omega)
        cases e
        rw [mksI_get _ _ _ (by omega), show (k : Int) + ((i * 12 + 8 : Nat) : Int) = (k : Int) + 12 * (i : Int) + 1 + 1 + 1 + 1 + 1 + 1 + 1 + 1 by omega] at c
        exact c
      rw [← Nat.add_assoc] at c8
      have c9 : w.cell? ⟨b, off + (i * 12 + 9), none⟩ = some (.int .i64 ((k : Int) + 12 * (i : Int) + 1 + 1 + 1 + 1 + 1 + 1 + 1 + 1 + 1)) := by
        obtain ⟨b', o', e, _, c⟩ := HA.out (i * 12 + 9) (by rw [mksI_len]; omega)
        cases e
        rw [mksI_get _ _ _ (by omega), show (k : Int) + ((i * 12 + 9 : Nat) : Int) = (k : Int) + 12 * (i : Int) + 1 + 1 + 1 + 1 + 1 + 1 + 1 + 1 + 1 by omega] at c
        exact c
      rw [← Nat.add_assoc] at c9
      have c10 : w.cell? ⟨b, off + (i * 12 + 10), none⟩ = some (.int .i64 ((k : Int) + 12 * (i : Int) + 1 + 1 + 1 + 1 + 1 + 1 + 1 + 1 + 1 + 1)) := by
        obtain ⟨b', o', e, _, c⟩ := HA.out (i * 12 + 10) (by rw [mksI_len]; omega)
        cases e
        rw [mksI_get _ _ _ (by omega), show (k : Int) + ((i * 12 + 10 : Nat) : Int) = (k : Int) + 12 * (i : Int) + 1 + 1 + 1 + 1 + 1 + 1 + 1 + 1 + 1 + 1 by omega] at c
        exact c
      rw [← Nat.add_assoc] at c10
      have c11 : w.cell? ⟨b, off + (i * 12 + 11), none⟩ = some (.int .i64 ((k : Int) + 12 * (i : Int) + 1 + 1 + 1 + 1 + 1 + 1 + 1 + 1 + 1 + 1 + 1)) := by
        obtain ⟨b', o', e, _, c⟩ := HA.out (i * 12 + 11) (by rw [mksI_len]; omega)
        cases e
        rw [mksI_get _ _ _ (by omega), show (k : Int) + ((i * 12 + 11 : Nat) : Int) = (k : Int) + 12 * (i : Int) + 1 + 1 + 1 + 1 + 1 + 1 + 1 + 1 + 1 + 1 + 1 by omega] at c
        exact c
      rw [← Nat.add_assoc] at c11
      rw [show (k : Int) + ((i * 12 : Nat) : Int) = (k : Int) + 12 * (i : Int) by omega] at c0
      go_wp2_with fail
      exact ⟨⟨i + 1, by omega, by go_num, by go_num⟩, by simp [intOf]; omega⟩
    · have hi' : i = n := by omega
      subst hi'
      go_wp2_with fail
      go_ret
      exact ⟨rfl, rfl⟩

set_option maxHeartbeats 1000000 in
theorem eqRuleS_walk (a b : Option Addr) (n c1 c2 : Nat) (zs : List Int) (w : World) (hn : zs.length = n * 12) (ha : ArrI w a zs) (hb : ArrI w b zs) (hm : n ≤ 1048576) :
    Calls Try.prog 12 #[.slice a n c1, .slice b n c2] w fun e w' => e = .returned (.bool true) ∧ Below w.heap.size w w' := by
  have HN := hide hn
  have HA := hide ha
  have HB := hide hb
  clear hn ha hb
  go_enter Try.func12, Try.ntmps12
  go_wp2_with fail
  go_loopw [5] (fun t w2 => ∃ i : Nat, i ≤ n ∧ t = .int .i64 i ∧ Below w.heap.size w w2) (fun t _ => n - (intOf t).toNat)
  case atStart => exact ⟨0, Nat.zero_le _, rfl, Below.refl _ _⟩
  case round =>
    obtain ⟨i, hi, rfl, hbel⟩ := hrel
    by_cases hlt : i < n
    · have hlt2 : i * 12 + 12 ≤ n * 12 := by omega
      obtain ⟨b1, o1, rfl, hb1, _⟩ := HA.out (i * 12) (by rw [HN.out]; omega)
      have g0 : wr.cell? ⟨b1, o1 + (i * 12), none⟩ = some (.int .i64 (zs.getD (i * 12) 0)) := by
        obtain ⟨b', o', e, _, c⟩ := HA.out (i * 12) (by rw [HN.out]; omega)
        cases e
        rw [hbel.cell (p := ⟨b1, o1 + (i * 12), none⟩) hb1]; exact c
      have g1 : wr.cell? ⟨b1, o1 + (i * 12 + 1), none⟩ = some (.int .i64 (zs.getD (i * 12 + 1) 0)) := by
        obtain ⟨b', o', e, _, c⟩ := HA.out (i * 12 + 1) (by rw [HN.out]; omega)
        cases e
        rw [hbel.cell (p := ⟨b1, o1 + (i * 12 + 1), none⟩) hb1]; exact c
      rw [← Nat.add_assoc] at g1
      have g2 : wr.cell? ⟨b1, o1 + (i * 12 + 2), none⟩ = some (.int .i64 (zs.getD (i * 12 + 2) 0)) := by
        obtain ⟨b', o', e, _, c⟩ := HA.out (i * 12 + 2) (by rw [HN.out]; omega)
        cases e
        rw [hbel.cell (p := ⟨b1, o1 + (i * 12 + 2), none⟩) hb1]; exact c
      rw [← Nat.add_assoc] at g2
      have g3 : wr.cell? ⟨b1, o1 + (i * 12 + 3), none⟩ = some (.int .i64 (zs.getD (i * 12 + 3) 0)) := by
        obtain ⟨b', o', e, _, c⟩ := HA.out (i * 12 + 3) (by rw [HN.out]; omega)
        cases e
        rw [hbel.cell (p := ⟨b1, o1 + (i * 12 + 3), none⟩) hb1]; exact c
      rw [← Nat.add_assoc] at g3
      have g4 : wr.cell? ⟨b1, o1 + (i * 12 + 4), none⟩ = some (.int .i64 (zs.getD (i * 12 + 4) 0)) := by
        obtain ⟨b', o', e, _, c⟩ := HA.out (i * 12 + 4) (by rw [HN.out]; omega)
        cases e
        rw [hbel.cell (p := ⟨b1, o1 + (i * 12 + 4), none⟩) hb1]; exact c
      rw [← Nat.add_assoc] at g4
      have g5 : wr.cell? ⟨b1, o1 + (i * 12 + 5), none⟩ = some (.int .i64 (zs.getD (i * 12 + 5) 0)) := by
        obtain ⟨b', o', e, _, c⟩ := HA.out (i * 12 + 5) (by rw [HN.out]; omega)
        cases e
        rw [hbel.cell (p := ⟨b1, o1 + (i * 12 + 5), none⟩) hb1]; exact c
      rw [← Nat.add_assoc] at g5
      have g6 : wr.cell? ⟨b1, o1 + (i * 12 + 6), none⟩ = some (.int .i64 (zs.getD (i * 12 + 6) 0)) := by
        obtain ⟨b', o', e, _, c⟩ := HA.out (i * 12 + 6) (by rw [HN.out]; omega)
        cases e
        rw [hbel.cell (p := ⟨b1, o1 + (i * 12 + 6), none⟩) hb1]; exact c
      rw [← Nat.add_assoc] at g6
      have g7 : wr.cell? ⟨b1, o1 + (i * 12 + 7), none⟩ = some (.int .i64 (zs.getD (i * 12 + 7) 0)) := by
        obtain ⟨b', o', e, _, c⟩ := HA.out (i * 12 + 7) (by rw [HN.out]; omega)
        cases e
        rw [hbel.cell (p := ⟨b1, o1 + (i * 12 + 7), none⟩) hb1]; exact c
      rw [← Nat.add_assoc] at g7
      have g8 : wr.cell? ⟨b1, o1 + (i * 12 + 8), none⟩ = some (.int .i64 (zs.getD (i * 12 + 8) 0)) := by
        obtain ⟨b', o', e, _, c⟩ := HA.out (i * 12 + 8) (by rw [HN.out]; omega)
        cases e
        rw [hbel.cell (p := ⟨b1, o1 + (i * 12 + 8), none⟩) hb1]; exact c
      rw [← Nat.add_assoc] at g8
      have g9 : wr.cell? ⟨b1, o1 + (i * 12 + 9), none⟩ = some (.int .i64 (zs.getD (i * 12 + 9) 0)) := by
        obtain ⟨b', o', e, _, c⟩ := HA.out (i * 12 + 9) (by rw [HN.out]; omega)
        cases e
        rw [hbel.cell (p := ⟨b1, o1 + (i * 12 + 9), none⟩) hb1]; exact c
      rw [← Nat.add_assoc] at g9
      have g10 : wr.cell? ⟨b1, o1 + (i * 12 + 10), none⟩ = some (.int .i64 (zs.getD (i * 12 + 10) 0)) := by
        obtain ⟨b', o', e, _, c⟩ := HA.out (i * 12 + 10) (by rw [HN.out]; omega)
        cases e
        rw [hbel.cell (p := ⟨b1, o1 + (i * 12 + 10), none⟩) hb1]; exact c
      rw [← Nat.add_assoc] at g10
      have g11 : wr.cell? ⟨b1, o1 + (i * 12 + 11), none⟩ = some (.int .i64 (zs.getD (i * 12 + 11) 0)) := by
        obtain ⟨b', o', e, _, c⟩ := HA.out (i * 12 + 11) (by rw [HN.out]; omega)
        cases e
        rw [hbel.cell (p := ⟨b1, o1 + (i * 12 + 11), none⟩) hb1]; exact c
      rw [← Nat.add_assoc] at g11
      obtain ⟨b2, o2, rfl, hb2, _⟩ := HB.out (i * 12) (by rw [HN.out]; omega)
      have h0 : wr.cell? ⟨b2, o2 + (i * 12), none⟩ = some (.int .i64 (zs.getD (i * 12) 0)) := by
        obtain ⟨b', o', e, _, c⟩ := HB.out (i * 12) (by rw [HN.out]; omega)
        cases e
        rw [hbel.cell (p := ⟨b2, o2 + (i * 12), none⟩) hb2]; exact c
      have h1 : wr.cell? ⟨b2, o2 + (i * 12 + 1), none⟩ = some (.int .i64 (zs.getD (i * 12 + 1) 0)) := by
        obtain ⟨b', o', e, _, c⟩ := HB.out (i * 12 + 1) (by rw [HN.out]; omega)
        cases e
        rw [hbel.cell (p := ⟨b2, o2 + (i * 12 + 1), none⟩) hb2]; exact c
      rw [← Nat.add_assoc] at h1
      have h2 : wr.cell? ⟨b2, o2 + (i * 12 + 2), none⟩ = some (.int .i64 (zs.getD (i * 12 + 2) 0)) := by
        obtain ⟨b', o', e, _, c⟩ := HB.out (i * 12 + 2) (by rw [HN.out]; omega)
        cases e
        rw [hbel.cell (p := ⟨b2, o2 + (i * 12 + 2), none⟩) hb2]; exact c
      rw [← Nat.add_assoc] at h2
      have h3 : wr.cell? ⟨b2, o2 + (i * 12 + 3), none⟩ = some (.int .i64 (zs.getD (i * 12 + 3) 0)) := by
        obtain ⟨b', o', e, _, c⟩ := HB.out (i * 12 + 3) (by rw [HN.out]; omega)
        cases e
        rw [hbel.cell (p := ⟨b2, o2 + (i * 12 + 3), none⟩) hb2]; exact c
      rw [← Nat.add_assoc] at h3
      have h4 : wr.cell? ⟨b2, o2 + (i * 12 + 4), none⟩ = some (.int .i64 (zs.getD (i * 12 + 4) 0)) := by
        obtain ⟨b', o', e, _, c⟩ := HB.out (i * 12 + 4) (by rw [HN.out]; omega)
        cases e
        rw [hbel.cell (p := ⟨b2, o2 + (i * 12 + 4), none⟩) hb2]; exact c
      rw [← Nat.add_assoc] at h4
      have h5 : wr.cell? ⟨b2, o2 + (i * 12 + 5), none⟩ = some (.int .i64 (zs.getD (i * 12 + 5) 0)) := by
        obtain ⟨b', o', e, _, c⟩ := HB.out (i * 12 + 5) (by rw [HN.out]; omega)
        cases e
        rw [hbel.cell (p := ⟨b2, o2 + (i * 12 + 5), none⟩) hb2]; exact c
      rw [← Nat.add_assoc] at h5
      have h6 : wr.cell? ⟨b2, o2 + (i * 12 + 6), none⟩ = some (.int .i64 (zs.getD (i * 12 + 6) 0)) := by
        obtain ⟨b', o', e, _, c⟩ := HB.out (i * 12 + 6) (by rw [HN.out]; omega)
        cases e
        rw [hbel.cell (p := ⟨b2, o2 + (i * 12 + 6), none⟩) hb2]; exact c
      rw [← Nat.add_assoc] at h6
      have h7 : wr.cell? ⟨b2, o2 + (i * 12 + 7), none⟩ = some (.int .i64 (zs.getD (i * 12 + 7) 0)) := by
        obtain ⟨b', o', e, _, c⟩ := HB.out (i * 12 + 7) (by rw [HN.out]; omega)
        cases e
        rw [hbel.cell (p := ⟨b2, o2 + (i * 12 + 7), none⟩) hb2]; exact c
      rw [← Nat.add_assoc] at h7
      have h8 : wr.cell? ⟨b2, o2 + (i * 12 + 8), none⟩ = some (.int .i64 (zs.getD (i * 12 + 8) 0)) := by
        obtain ⟨b', o', e, _, c⟩ := HB.out (i * 12 + 8) (by rw [HN.out]; omega)
        cases e
        rw [hbel.cell (p := ⟨b2, o2 + (i * 12 + 8), none⟩) hb2]; exact c
      rw [← Nat.add_assoc] at h8
      have h9 : wr.cell? ⟨b2, o2 + (i * 12 + 9), none⟩ = some (.int .i64 (zs.getD (i * 12 + 9) 0)) := by
        obtain ⟨b', o', e, _, c⟩ := HB.out (i * 12 + 9) (by rw [HN.out]; omega)
        cases e
        rw [hbel.cell (p := ⟨b2, o2 + (i * 12 + 9), none⟩) hb2]; exact c
      rw [← Nat.add_assoc] at h9
      have h10 : wr.cell? ⟨b2, o2 + (i * 12 + 10), none⟩ = some (.int .i64 (zs.getD (i * 12 + 10) 0)) := by
        obtain ⟨b', o', e, _, c⟩ := HB.out (i * 12 + 10) (by rw [HN.out]; omega)
        cases e
        rw [hbel.cell (p := ⟨b2, o2 + (i * 12 + 10), none⟩) hb2]; exact c
      rw [← Nat.add_assoc] at h10
      have h11 : wr.cell? ⟨b2, o2 + (i * 12 + 11), none⟩ = some (.int .i64 (zs.getD (i * 12 + 11) 0)) := by
        obtain ⟨b', o', e, _, c⟩ := HB.out (i * 12 + 11) (by rw [HN.out]; omega)
        cases e
        rw [hbel.cell (p := ⟨b2, o2 + (i * 12 + 11), none⟩) hb2]; exact c
      rw [← Nat.add_assoc] at h11
      generalize zs.getD (i * 12) 0 = z0 at *
      generalize zs.getD (i * 12 + 1) 0 = z1 at *
      generalize zs.getD (i * 12 + 2) 0 = z2 at *
      generalize zs.getD (i * 12 + 3) 0 = z3 at *
      generalize zs.getD (i * 12 + 4) 0 = z4 at *
      generalize zs.getD (i * 12 + 5) 0 = z5 at *
      generalize zs.getD (i * 12 + 6) 0 = z6 at *
      generalize zs.getD (i * 12 + 7) 0 = z7 at *
      generalize zs.getD (i * 12 + 8) 0 = z8 at *
      generalize zs.getD (i * 12 + 9) 0 = z9 at *
      generalize zs.getD (i * 12 + 10) 0 = z10 at *
      generalize zs.getD (i * 12 + 11) 0 = z11 at *
      have kg0 := cell_regrown g0
      have kg1 := cell_regrown g1
      have kg2 := cell_regrown g2
      have kg3 := cell_regrown g3
      have kg4 := cell_regrown g4
      have kg5 := cell_regrown g5
      have kg6 := cell_regrown g6
      have kg7 := cell_regrown g7
      have kg8 := cell_regrown g8
      have kg9 := cell_regrown g9
      have kg10 := cell_regrown g10
      have kg11 := cell_regrown g11
      have kh0 := cell_regrown h0
      have kh1 := cell_regrown h1
      have kh2 := cell_regrown h2
      have kh3 := cell_regrown h3
      have kh4 := cell_regrown h4
      have kh5 := cell_regrown h5
      have kh6 := cell_regrown h6
      have kh7 := cell_regrown h7
      have kh8 := cell_regrown h8
      have kh9 := cell_regrown h9
      have kh10 := cell_regrown h10
      have kh11 := cell_regrown h11
      have cE : ∀ d os, Calls Try.prog 23 #[.agg #[.int .i64 z0, .int .i64 z1, .int .i64 z2, .int .i64 z3, .int .i64 z4, .int .i64 z5, .int .i64 z6, .int .i64 z7, .int .i64 z8, .int .i64 z9, .int .i64 z10, .int .i64 z11], .agg #[.int .i64 z0, .int .i64 z1, .int .i64 z2, .int .i64 z3, .int .i64 z4, .int .i64 z5, .int .i64 z6, .int .i64 z7, .int .i64 z8, .int .i64 z9, .int .i64 z10, .int .i64 z11]] (Go.Sort.grow (redrawn wr d) os) fun e w'' => e = .returned (.bool true) ∧ ∃ p : Regrown, w'' = Go.Sort.grow (redrawn wr p.d) p.os := fun d os => Calls.regrown_of (eqRule_walk z0 z1 z2 z3 z4 z5 z6 z7 z8 z9 z10 z11 (Go.Sort.grow (redrawn wr d) os))
      clear g0 g1 g2 g3 g4 g5 g6 g7 g8 g9 g10 g11 h0 h1 h2 h3 h4 h5 h6 h7 h8 h9 h10 h11
      go_wp2_with fail
      refine wp_region_quiet_below (by kernel_rfl) (by kernel_rfl) ?_
      repeat (first | go_big_quiet_step ((go_at_call 23; exact cE _ _)) | quiet_step ((go_at_call 23; exact cE _ _)))
      refine wpQuiet_nil ?_
      intro _ hw'
      obtain ⟨⟨dq, osq⟩, hw''⟩ := hw'
      subst hw''
      go_wp2
      exact ⟨⟨i + 1, by omega, by go_num, below_then hbel dq osq⟩, by simp [intOf]; omega⟩
    · go_wp2
      go_ret
      exact ⟨rfl, hbel⟩

/-- What is wanted of a function of a text that answers rules, a code and a line's number. -/
def ReadRulesC (f : Nat) (Pre : World → Prop) (s : ByteArray) (L : List Int) (C N : Int) : Prop :=
  ∀ (w : World), s.size ≤ 1048576 → Pre w → Calls Try.prog f #[.string s] w fun e w' => ∃ v, e = .returned (.tuple #[v, .int .i64 C, .int .i64 N]) ∧ OwnI w' w.heap.size 45 12 v (L.length / 12) L ∧ Below w.heap.size w w'
set_option maxHeartbeats 8000000 in
theorem walkReadRules0 (Pre : World → Prop) (hpre : ∀ (w w' : World), Pre w → Below w.heap.size w w' → Pre w') (s : ByteArray) (L : List Int) (C N : Int) (hS : ReadRulesC 10 Pre s L C N) (hI : ReadRulesC 11 Pre s L C N) (hL : L.length ≤ 12582912) (hs : s.size ≤ 1048576 ∨ 1048576 < s.size)
    (w : World) (hmx : s.size ≤ 9223372036854775807) (hp : Pre w) :
    Calls Try.prog 4 #[.string s] w fun e w' => e = .returned (.bool true) ∧ Below w.heap.size w w' := by
  rcases hs with hs | hs
  · have hs' : ¬ (1048576 : Int) < (s.size : Int) := by omega
    have CS := hide (fun W (hb : Below w.heap.size w W) => hS W hs (hpre w W hp hb))
    have CI := hide (fun W (hb : Below w.heap.size w W) => hI W hs (hpre w W hp hb))
    have hn : L.length / 12 ≤ 1048576 := by omega
    clear hS hI hpre hp
    generalize hnn : L.length / 12 = n at *
    go_enter Try.func4, Try.ntmps4
    go_wp2_with fail
    refine (CS.out w (Below.refl _ _)).mono ?_
    rintro e w1 ⟨vw, rfl, hOw, hb1⟩
    have hlen := hOw.len
    have hwlt := fun b (h : vw.ownBlock = some b) => ownsAt.lt hOw b h
    obtain ⟨aw, cw, ew, _, _⟩ := hOw.arr
    subst ew
    have HB1 := hide hb1
    have HOW1 := hide hOw
    have HWL := hide hwlt
    have HLEN := hide hlen
    clear hb1 hOw hwlt hlen CS
    go_wp2_with fail
    refine (CI.out w1 HB1.out).mono ?_
    rintro e w2 ⟨vg, rfl, hOg, hb2⟩
    have hglt := fun b (h : vg.ownBlock = some b) => ownsAt.lt hOg b h
    obtain ⟨ag, cg, eg, _, _⟩ := hOg.arr
    subst eg
    have HB2 := hide (HB1.out.trans (hb2.mono HB1.out.size))
    have HOW2 := hide (HOW1.out.next hb2)
    have HOG2 := hide hOg
    have HGL := hide hglt
    have hz1 := HB1.out.size
    clear hb2 hOg hglt HB1 HOW1
    have E := hide (eqRuleS_walk ag aw n cg cw L w2 HLEN.out (by obtain ⟨a', c', e, h', _⟩ := HOG2.out.arr; cases e; exact h') (by obtain ⟨a', c', e, h', _⟩ := HOW2.out.arr; cases e; exact h') hn)
    go_wp2_with fail
    refine E.out.mono ?_
    rintro e w3 ⟨rfl, hb3⟩
    have HB3 := hide (HB2.out.trans (hb3.mono HB2.out.size))
    have HOW3 := hide (HOW2.out.next hb3)
    have HOG3 := hide (HOG2.out.next hb3)
    clear hb3 HB2 HOW2 HOG2 E
    have M := hide (markRule_walk (.slice ag n cg) w1.heap.size n L 1 w3 HOG3.out (by omega) (by omega))
    go_wp2_with fail
    refine M.out.mono ?_
    rintro e w4 ⟨rfl, hO4, hg4⟩
    have HOG4 := hide hO4
    have HOW4 := hide (HOW3.out.kept hg4 (by
      cases ho : (Value.slice aw n cw).ownBlock with
      | none => exact .inl rfl
      | some b =>
        refine .inr fun h => ?_
        have h1 := HWL.out b ho
        have h2 := HGL.out b h.symm
        omega))
    have HB4 := hide (HB3.out.grown hg4 HB3.out.size (fun b hb => by have := HGL.out b hb; omega))
    clear hO4 hg4 M HB3 HOW3 HOG3
    have HD := hide (heldRule_walk ag n cg 1 w4 (by obtain ⟨a', c', e, h', _⟩ := HOG4.out.arr; cases e; exact h') (by omega) (by omega))
    go_wp2_with fail
    refine HD.out.mono ?_
    rintro e w5 ⟨rfl, hw5⟩
    rw [hw5]
    clear hw5 HD
    go_wp2_with fail
    refine (CI.out w4 HB4.out).mono ?_
    rintro e w6 ⟨vh, rfl, hOh, hb6⟩
    obtain ⟨ah, ch, eh, _, _⟩ := hOh.arr
    subst eh
    have HB6 := hide (HB4.out.trans (hb6.mono HB4.out.size))
    have HOW6 := hide (HOW4.out.next hb6)
    have HOG6 := hide (HOG4.out.next hb6)
    have HOH6 := hide hOh
    clear hb6 hOh HB4 HOW4 HOG4 CI
    have E := hide (eqRuleS_walk ah aw n ch cw L w6 HLEN.out (by obtain ⟨a', c', e, h', _⟩ := HOH6.out.arr; cases e; exact h') (by obtain ⟨a', c', e, h', _⟩ := HOW6.out.arr; cases e; exact h') hn)
    go_wp2_with fail
    refine E.out.mono ?_
    rintro e w7 ⟨rfl, hb7⟩
    have HB7 := hide (HB6.out.trans (hb7.mono HB6.out.size))
    have HOG7 := hide (HOG6.out.next hb7)
    clear hb7 HB6 HOG6 HOW6 HOH6 E
    have HD := hide (heldRule_walk ag n cg 1 w7 (by obtain ⟨a', c', e, h', _⟩ := HOG7.out.arr; cases e; exact h') (by omega) (by omega))
    go_wp2_with fail
    refine HD.out.mono ?_
    rintro e w8 ⟨rfl, hw8⟩
    rw [hw8]
    clear hw8 HD
    go_wp2_with fail
    go_ret
    exact ⟨rfl, HB7.out⟩
  · have hs' : (1048576 : Int) < (s.size : Int) := by omega
    clear hS hI hpre hp
    go_enter Try.func4, Try.ntmps4
    go_wp2_with fail
    go_ret
    exact ⟨rfl, Below.refl _ _⟩
end Go.Proofs.Ytgegnkboibgbgaa
