/-
Contracts of functions of this seat.
-/
import Derived.Test.YtakoagfeiolkjaaDoorRows
import Derived.WalkKit
import Derived.ProofKit
import Derived.OpenShut
import Derived.Test.YtakoagfeiolkjaaDoorIpk
namespace Go.Proofs.YtakoagfeiolkjaaDoor
open Go.ChangeShapes Go.WideShapes Go.ChangeAt Go.RowKit
set_option linter.unusedVariables false
set_option maxRecDepth 100000
/-- The sum of numbers of two bytes with its carries added at the low end. -/
def fold (s : Int) : Int := if s = 0 then 0 else (s - 1) % 65535 + 1
theorem fold_small (s : Int) (h0 : 0 ≤ s) (h1 : s ≤ 65535) : fold s = s := by unfold fold; split <;> omega
theorem fold_bd (s : Int) (h0 : 0 ≤ s) : 0 ≤ fold s ∧ fold s ≤ 65535 := by unfold fold; split <;> omega
theorem fold_shift (s : Int) (h : 65535 < s) : fold (s / 65536 + s % 65536) = fold s := by
  unfold fold; rw [if_neg (by omega), if_neg (by omega)]; omega
theorem fold_sub (s : Int) (h : 65535 < s) : fold (s - 65535) = fold s := by
  unfold fold; rw [if_neg (by omega), if_neg (by omega)]; omega

attribute [local go_sem] and_65535_u64 signed_u16 wrap_u16 not_u16
theorem fold_walk (s : Int) (h0 : 0 ≤ s) (h1 : s ≤ 18446744073709551615) (w : World) :
    Calls Tryd.prog 50 #[.int .u64 s] w fun e w' => e = .returned (.int .i64 (65535 - fold s)) ∧ w' = w := by
  go_enter Tryd.func50, Tryd.ntmps50
  go_wp2
  go_loop [0] (fun t => ∃ s' : Int, 0 ≤ s' ∧ s' ≤ 18446744073709551615 ∧ Hid (fold s' = fold s) ∧ t = .int .u64 s') (fun t => (intOf t).toNat)
  case atStart => exact ⟨s, h0, h1, hide rfl, rfl⟩
  case round =>
    obtain ⟨s', g0, g1, H, rfl⟩ := hrel
    by_cases hlt : 65535 < s'
    · go_wp2
      go_round
      case rel => exact ⟨s' / 65536 + s' % 65536, by omega, by omega, hide ((fold_shift s' hlt).trans H.out), by go_num⟩
      case measure => simp [intOf]; omega
    · go_wp2
      go_ret
      refine ⟨ret_int ?_, rfl⟩
      rw [← H.out, fold_small s' g0 (by omega)]
      omega

/-- The sum of the first k numbers of two bytes; behind the last byte stand zeros. -/
def psum (zs : List Int) : Nat → Int
  | 0 => 0
  | k + 1 => psum zs k + (zs.getD (2 * k) 0 * 256 + zs.getD (2 * k + 1) 0)
theorem psum_bd {zs : List Int} (h : ∀ z ∈ zs, 0 ≤ z ∧ z ≤ 255) : ∀ k : Nat, 0 ≤ psum zs k ∧ psum zs k ≤ 65535 * (k : Int)
  | 0 => by simp [psum]
  | k + 1 => by
    have h1 := psum_bd h k
    have h2 := getD_bd h (2 * k)
    have h3 := getD_bd h (2 * k + 1)
    simp only [psum]; omega
theorem psum_odd {zs : List Int} {n : Nat} (hn : zs.length = n) (ho : n % 2 = 1) : psum zs ((n + 1) / 2) = psum zs (n / 2) + zs.getD (n - 1) 0 * 256 := by
  have e : (n + 1) / 2 = n / 2 + 1 := by omega
  rw [e, psum, show 2 * (n / 2) = n - 1 by omega]
  have : zs.getD (n - 1 + 1) 0 = 0 := by rw [List.getD_eq_getElem?_getD, List.getElem?_eq_none (by omega)]; rfl
  rw [this]; omega
theorem fold_add (S x : Int) (hS : 0 ≤ S) (h0 : 0 ≤ x) (h1 : x ≤ 65535) : fold (S + x) = if 65535 < fold S + x then fold S + x - 65535 else fold S + x := by
  unfold fold
  by_cases hs : S = 0
  · subst hs
    by_cases hx : x = 0
    · subst hx; simp
    · rw [if_neg (by omega)]; simp; split <;> omega
  · rw [if_neg (by omega), if_neg hs]
    split <;> omega

theorem Arr.at {w : World} {a : Option Addr} {zs : List Int} (h : Arr w a zs) {j : Nat} {b off : Nat} (ha : a = some ⟨b, off, none⟩) (hj : j < zs.length) : w.cell? ⟨b, off + j, none⟩ = some (.int .u8 (zs.getD j 0)) := by
  obtain ⟨b', off', e, _, hc⟩ := h.2 j hj
  rw [ha] at e
  simp only [Option.some.injEq, Addr.mk.injEq, and_true] at e
  obtain ⟨rfl, rfl⟩ := e
  exact hc
theorem specSum_walk (a : Option Addr) (n cap : Nat) (zs : List Int) (w : World) (hn : zs.length = n) (ha : Arr w a zs) (hm : n ≤ 1048576) :
    Calls Tryd.prog 44 #[.slice a n cap] w fun e w' => e = .returned (.int .i64 (fold (psum zs ((n + 1) / 2)))) ∧ w' = w := by
  have HN := hide hn
  have HA := hide ha
  clear hn ha
  go_enter Tryd.func44, Tryd.ntmps44
  go_wp2_with fail
  go_loop [3, 4] (fun s t => ∃ i k : Nat, Hid (i = 2 * k) ∧ i ≤ n + 1 ∧ t = .int .i64 i ∧ s = .int .i64 (fold (psum zs k))) (fun _ t => n + 2 - (intOf t).toNat)
  case atStart => exact ⟨0, 0, hide rfl, by omega, rfl, rfl⟩
  case round =>
    obtain ⟨i, k, HI, hi, rfl, rfl⟩ := hrel
    have hp := psum_bd HA.out.1 k
    have hf := fold_bd (psum zs k) hp.1
    by_cases hlt : i < n
    · obtain ⟨b, off, rfl, hbs, hc⟩ := HA.out.2 i (by rw [HN.out]; exact hlt)
      have hz := getD_bd HA.out.1 i
      have hz2 := getD_bd HA.out.1 (i + 1)
      have HF := hide (fold_add (psum zs k) (zs.getD i 0 * 256 + zs.getD (i + 1) 0) hp.1 (by omega) (by omega))
      have HP : Hid (psum zs (k + 1) = psum zs k + (zs.getD i 0 * 256 + zs.getD (i + 1) 0)) := hide (by rw [psum, ← HI.out])
      clear hp
      by_cases hl2 : i + 1 < n
      · have hc2 := HA.out.at (j := i + 1) rfl (by rw [HN.out]; exact hl2)
        generalize zs.getD i 0 = x at *
        generalize zs.getD (i + 1) 0 = y at *
        generalize fold (psum zs k) = s at *
        by_cases hg : 65535 < s + (x * 256 + y)
        all_goals
          go_wp2
          go_round
          case rel => exact ⟨i + 2, k + 1, hide (by have := HI.out; omega), by omega, by go_num, by rw [HP.out, HF.out]; simp only [hg, if_true, if_false]; try go_num⟩
          case measure => simp [intOf]; omega
      · have hy : zs.getD (i + 1) 0 = 0 := by rw [List.getD_eq_getElem?_getD, List.getElem?_eq_none (by have := HN.out; omega)]; rfl
        rw [hy] at hz2 HF HP
        clear hy
        generalize zs.getD i 0 = x at *
        generalize fold (psum zs k) = s at *
        by_cases hg : 65535 < s + (x * 256 + 0)
        all_goals
          go_wp2
          go_round
          case rel => exact ⟨i + 2, k + 1, hide (by have := HI.out; omega), by omega, by go_num, by rw [HP.out, HF.out]; simp only [hg, if_true, if_false]; try go_num⟩
          case measure => simp [intOf]; omega
    · have hk : Hid (k = (n + 1) / 2) := hide (by have := HI.out; omega)
      go_wp2
      go_ret
      exact ⟨ret_int (by rw [hk.out]), rfl⟩
theorem specChecksum_walk (a : Option Addr) (n cap : Nat) (zs : List Int) (w : World) (hn : zs.length = n) (ha : Arr w a zs) (hm : n ≤ 1048576) :
    Calls Tryd.prog 27 #[.slice a n cap] w fun e w' => e = .returned (.int .i64 (65535 - fold (psum zs ((n + 1) / 2)))) ∧ w' = w := by
  have hf := fold_bd (psum zs ((n + 1) / 2)) (psum_bd ha.1 _).1
  have HN := hide hn
  have HA := hide ha
  clear hn ha
  go_enter Tryd.func27, Tryd.ntmps27
  go_wp2_with (go_at_call 44; refine (specSum_walk _ _ _ zs _ HN.out HA.out hm).mono ?_; rintro e w' ⟨rfl, rfl⟩)
  go_ret
  exact ⟨rfl, rfl⟩

theorem lit_own (w : World) (zs : List Int) (hz : ∀ z ∈ zs, 0 ≤ z ∧ z ≤ 255) (hm : zs.length ≤ 1048576) : OwnB (w.alloc (.cells (bval zs).toArray 5)) w.heap.size (.slice (some ⟨w.heap.size, 0, none⟩) zs.length zs.length) zs :=
  ⟨⟨by unfold bval; simp, .inr ⟨w.heap.size, zs.length, _, rfl, Nat.le_refl _, heap_alloc_new _ _, Nat.le_refl _, by unfold maxLen; omega, by simp [bval], by rw [Nat.mul_one]; exact List.take_of_length_le (by simp [bval])⟩⟩, hz⟩
/-- The head of a packet, its sum not yet in it. -/
def ipH (x0 x1 : Int) (x2 x3 : Bool) (x4 x5 x6 x7 x8 : Int) (z0 : List Int) (n1 : Nat) : List Int :=
  [64 + (20 + (z0.length : Int)) / 4, x0] ++ putL (20 + (z0.length : Int) + (n1 : Int)) 2 ++ putL x1 2 ++ putL ((if x2 then 16384 else 0) + (if x3 then 8192 else 0) + x4 / 8) 2 ++ [x5, x6, 0, 0] ++ putL x7 4 ++ putL x8 4 ++ z0
def csum (zs : List Int) : Int := 65535 - fold (psum zs ((zs.length + 1) / 2))
theorem csum_bd (zs : List Int) (h : ∀ z ∈ zs, 0 ≤ z ∧ z ≤ 255) : 0 ≤ csum zs ∧ csum zs ≤ 65535 := by
  have hf := fold_bd (psum zs ((zs.length + 1) / 2)) (psum_bd h _).1
  unfold csum
  omega
def ipHead (x0 x1 : Int) (x2 x3 : Bool) (x4 x5 x6 x7 x8 : Int) (z0 : List Int) (n1 : Nat) : List Int :=
  ((ipH x0 x1 x2 x3 x4 x5 x6 x7 x8 z0 n1).set 10 (csum (ipH x0 x1 x2 x3 x4 x5 x6 x7 x8 z0 n1) / 256)).set 11 (csum (ipH x0 x1 x2 x3 x4 x5 x6 x7 x8 z0 n1) % 256)
/-- What EncodeIP tells. -/
def ipC (x0 x1 x4 x5 x6 x7 x8 : Int) (n0 n1 : Nat) : Int := if pkOK x0 x1 x4 x5 x6 x7 x8 n0 then (if 65535 < 20 + (n0 : Int) + (n1 : Int) ∨ 65535 < x4 + (n1 : Int) then 7 else 0) else 1
def ipL (x0 x1 : Int) (x2 x3 : Bool) (x4 x5 x6 x7 x8 : Int) (z0 z1 : List Int) : List Int := if ipC x0 x1 x4 x5 x6 x7 x8 z0.length z1.length = 0 then ipHead x0 x1 x2 x3 x4 x5 x6 x7 x8 z0 z1.length ++ z1 else []
theorem pkOK_parts {x0 x1 x4 x5 x6 x7 x8 : Int} {n0 : Nat} (h : pkOK x0 x1 x4 x5 x6 x7 x8 n0 = true) : (0 ≤ x0 ∧ x0 ≤ 255) ∧ (0 ≤ x1 ∧ x1 ≤ 65535) ∧ (0 ≤ x4 ∧ x4 ≤ 65528) ∧ (0 ≤ x5 ∧ x5 ≤ 255) ∧ (0 ≤ x6 ∧ x6 ≤ 255) ∧ (0 ≤ x7 ∧ x7 ≤ 4294967295) ∧ (0 ≤ x8 ∧ x8 ≤ 4294967295) ∧ n0 ≤ 40 ∧ n0 % 4 = 0 ∧ x4 % 8 = 0 := by
  unfold pkOK at h
  simp only [Bool.and_eq_true, decide_eq_true_eq, beq_iff_eq, inB_iff, adrB_iff] at h
  obtain ⟨⟨⟨⟨⟨⟨⟨⟨⟨a, b⟩, c⟩, d⟩, e⟩, f⟩, g⟩, i⟩, j⟩, k⟩ := h
  exact ⟨a, d, e, b, c, g, i, j, k, f⟩
theorem ipH_len (x0 x1 : Int) (x2 x3 : Bool) (x4 x5 x6 x7 x8 : Int) (z0 : List Int) (n1 : Nat) : (ipH x0 x1 x2 x3 x4 x5 x6 x7 x8 z0 n1).length = 20 + z0.length := by unfold ipH; simp [putL_len]; omega
theorem ipHead_len (x0 x1 : Int) (x2 x3 : Bool) (x4 x5 x6 x7 x8 : Int) (z0 : List Int) (n1 : Nat) : (ipHead x0 x1 x2 x3 x4 x5 x6 x7 x8 z0 n1).length = 20 + z0.length := by unfold ipHead; rw [List.length_set, List.length_set, ipH_len]
/-- PacketSize of the specification. -/
def ipN (x0 x1 x4 x5 x6 x7 x8 : Int) (n0 n1 : Nat) : Int := if pkOK x0 x1 x4 x5 x6 x7 x8 n0 then 20 + (n0 : Int) + (n1 : Int) else 0
end Go.Proofs.YtakoagfeiolkjaaDoor
