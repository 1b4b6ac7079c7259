/-
Contracts of functions of this seat.
-/
import Derived.Test.YthbkhfiadkookaaGreatDoorRows
import Derived.WalkKit
import Derived.ProofKit
import Derived.OpenShut
import Derived.Deep.QuietTactic
import Derived.Below
import Derived.Laws.Externs
import Derived.OwnWalk
import Derived.BigQuiet
import Derived.ArgAppend
import Derived.RegionTactic
import Derived.ChangeAlike
import Derived.Laws.IdiomStrings
import Derived.Laws.BytesArg
import Derived.Deep.RegionHeld3
import Derived.Deep.CutRange
import Derived.LaidEql
import Derived.Stop.Asserts
import Derived.RowKitTokens
import Derived.Laws.CopyOwn
import Derived.Laws.OwnMore
import Derived.StillTailTactics
import Derived.Test.YthbkhfiadkookaaGreatDoorPa
namespace Go.Proofs.YthbkhfiadkookaaGreatDoor
open Go.ChangeShapes Go.WideShapes Go.ChangeAt Go.RowKit
set_option linter.unusedVariables false
set_option maxRecDepth 100000
section
set_option maxRecDepth 100000
/-- The sum of numbers of two bytes with its carries added at the low end. -/
def fold (s : Int) : Int := if s = 0 then 0 else (s - 1) % 65535 + 1
theorem fold_small (s : Int) (h0 : 0 ≤ s) (h1 : s ≤ 65535) : fold s = s := by unfold fold; split <;> omega
theorem fold_bd (s : Int) (h0 : 0 ≤ s) : 0 ≤ fold s ∧ fold s ≤ 65535 := by unfold fold; split <;> omega
theorem fold_shift (s : Int) (h : 65535 < s) : fold (s / 65536 + s % 65536) = fold s := by
  unfold fold; rw [if_neg (by omega), if_neg (by omega)]; omega
attribute [local go_sem] and_65535_u64 signed_u16 wrap_u16 not_u16
theorem fold_walk (s : Int) (h0 : 0 ≤ s) (h1 : s ≤ 18446744073709551615) (w : World) :
    Calls Tryz.prog 86 #[.int .u64 s] w fun e w' => e = .returned (.int .i64 (65535 - fold s)) ∧ w' = w := by
  go_enter Tryz.func86, Tryz.ntmps86
  go_wp2
  go_loop [0] (fun t => ∃ s' : Int, 0 ≤ s' ∧ s' ≤ 18446744073709551615 ∧ Hid (fold s' = fold s) ∧ t = .int .u64 s') (fun t => (intOf t).toNat)
  case atStart => exact ⟨s, h0, h1, hide rfl, rfl⟩
  case round =>
    obtain ⟨s', g0, g1, H, rfl⟩ := hrel
    by_cases hlt : 65535 < s'
    · go_wp2
      go_round
      case rel => exact ⟨s' / 65536 + s' % 65536, by omega, by omega, hide ((fold_shift s' hlt).trans H.out), by go_num⟩
      case measure => simp [intOf]; omega
    · go_wp2
      go_ret
      refine ⟨ret_int ?_, rfl⟩
      rw [← H.out, fold_small s' g0 (by omega)]
      omega

/-- The sum of the first k numbers of two bytes; behind the last byte stand zeros. -/
def psum (zs : List Int) : Nat → Int
  | 0 => 0
  | k + 1 => psum zs k + (zs.getD (2 * k) 0 * 256 + zs.getD (2 * k + 1) 0)
theorem psum_bd {zs : List Int} (h : ∀ z ∈ zs, 0 ≤ z ∧ z ≤ 255) : ∀ k : Nat, 0 ≤ psum zs k ∧ psum zs k ≤ 65535 * (k : Int)
  | 0 => by simp [psum]
  | k + 1 => by
    have h1 := psum_bd h k
    have h2 := getD_bd h (2 * k)
    have h3 := getD_bd h (2 * k + 1)
    simp only [psum]; omega
theorem fold_add (S x : Int) (hS : 0 ≤ S) (h0 : 0 ≤ x) (h1 : x ≤ 65535) : fold (S + x) = if 65535 < fold S + x then fold S + x - 65535 else fold S + x := by
  unfold fold
  by_cases hs : S = 0
  · subst hs
    by_cases hx : x = 0
    · subst hx; simp
    · rw [if_neg (by omega)]; simp; split <;> omega
  · rw [if_neg (by omega), if_neg hs]
    split <;> omega

theorem Arr.at {w : World} {a : Option Addr} {zs : List Int} (h : Arr w a zs) {j : Nat} {b off : Nat} (ha : a = some ⟨b, off, none⟩) (hj : j < zs.length) : w.cell? ⟨b, off + j, none⟩ = some (.int .u8 (zs.getD j 0)) := by
  obtain ⟨b', off', e, _, hc⟩ := h.2 j hj
  rw [ha] at e
  simp only [Option.some.injEq, Addr.mk.injEq, and_true] at e
  obtain ⟨rfl, rfl⟩ := e
  exact hc
theorem specSum_walk (a : Option Addr) (n cap : Nat) (zs : List Int) (w : World) (hn : zs.length = n) (ha : Arr w a zs) (hm : n ≤ 1048576) :
    Calls Tryz.prog 84 #[.slice a n cap] w fun e w' => e = .returned (.int .i64 (fold (psum zs ((n + 1) / 2)))) ∧ w' = w := by
  have HN := hide hn
  have HA := hide ha
  clear hn ha
  go_enter Tryz.func84, Tryz.ntmps84
  go_wp2_with fail
  go_loop [3, 4] (fun s t => ∃ i k : Nat, Hid (i = 2 * k) ∧ i ≤ n + 1 ∧ t = .int .i64 i ∧ s = .int .i64 (fold (psum zs k))) (fun _ t => n + 2 - (intOf t).toNat)
  case atStart => exact ⟨0, 0, hide rfl, by omega, rfl, rfl⟩
  case round =>
    obtain ⟨i, k, HI, hi, rfl, rfl⟩ := hrel
    have hp := psum_bd HA.out.1 k
    have hf := fold_bd (psum zs k) hp.1
    by_cases hlt : i < n
    · obtain ⟨b, off, rfl, hbs, hc⟩ := HA.out.2 i (by rw [HN.out]; exact hlt)
      have hz := getD_bd HA.out.1 i
      have hz2 := getD_bd HA.out.1 (i + 1)
      have HF := hide (fold_add (psum zs k) (zs.getD i 0 * 256 + zs.getD (i + 1) 0) hp.1 (by omega) (by omega))
      have HP : Hid (psum zs (k + 1) = psum zs k + (zs.getD i 0 * 256 + zs.getD (i + 1) 0)) := hide (by rw [psum, ← HI.out])
      clear hp
      by_cases hl2 : i + 1 < n
      · have hc2 := HA.out.at (j := i + 1) rfl (by rw [HN.out]; exact hl2)
        generalize zs.getD i 0 = x at *
        generalize zs.getD (i + 1) 0 = y at *
        generalize fold (psum zs k) = s at *
        by_cases hg : 65535 < s + (x * 256 + y)
        all_goals
          go_wp2
          go_round
          case rel => exact ⟨i + 2, k + 1, hide (by have := HI.out; omega), by omega, by go_num, by rw [HP.out, HF.out]; simp only [hg, if_true, if_false]; try go_num⟩
          case measure => simp [intOf]; omega
      · have hy : zs.getD (i + 1) 0 = 0 := by rw [List.getD_eq_getElem?_getD, List.getElem?_eq_none (by have := HN.out; omega)]; rfl
        rw [hy] at hz2 HF HP
        clear hy
        generalize zs.getD i 0 = x at *
        generalize fold (psum zs k) = s at *
        by_cases hg : 65535 < s + (x * 256 + 0)
        all_goals
          go_wp2
          go_round
          case rel => exact ⟨i + 2, k + 1, hide (by have := HI.out; omega), by omega, by go_num, by rw [HP.out, HF.out]; simp only [hg, if_true, if_false]; try go_num⟩
          case measure => simp [intOf]; omega
    · have hk : Hid (k = (n + 1) / 2) := hide (by have := HI.out; omega)
      go_wp2
      go_ret
      exact ⟨ret_int (by rw [hk.out]), rfl⟩
theorem specChecksum_walk (a : Option Addr) (n cap : Nat) (zs : List Int) (w : World) (hn : zs.length = n) (ha : Arr w a zs) (hm : n ≤ 1048576) :
    Calls Tryz.prog 61 #[.slice a n cap] w fun e w' => e = .returned (.int .i64 (65535 - fold (psum zs ((n + 1) / 2)))) ∧ w' = w := by
  have hf := fold_bd (psum zs ((n + 1) / 2)) (psum_bd ha.1 _).1
  have HN := hide hn
  have HA := hide ha
  clear hn ha
  go_enter Tryz.func61, Tryz.ntmps61
  go_wp2_with (go_at_call 84; refine (specSum_walk _ _ _ zs _ HN.out HA.out hm).mono ?_; rintro e w' ⟨rfl, rfl⟩)
  go_ret
  exact ⟨rfl, rfl⟩

theorem l05Flag_walk (b : Bool) (n : Int) (w : World) : Calls Tryz.prog 83 #[.bool b, .int .i64 n] w fun e w' => e = .returned (.int .i64 (if b then n else 0)) ∧ w' = w := by
  cases b with
  | false =>
    go_enter Tryz.func83, Tryz.ntmps83
    go_wp2
    go_ret
    exact ⟨rfl, rfl⟩
  | true =>
    go_enter Tryz.func83, Tryz.ntmps83
    go_wp2
    go_ret
    exact ⟨rfl, rfl⟩
theorem putw4 (v : Int) (w : World) (hv : 0 ≤ v) :
    Calls Tryz.prog 60 #[.int .i64 v, .int .i64 4] w fun e w' => ∃ u : Value, e = .returned u ∧ OwnB w' w.heap.size u (putL v 4) ∧ Below w.heap.size w w' := l03Put_walk v 4 w hv (by omega)
theorem lit_own (w : World) (zs : List Int) (hz : ∀ z ∈ zs, 0 ≤ z ∧ z ≤ 255) (hm : zs.length ≤ 1048576) : OwnB (w.alloc (.cells (bval zs).toArray 5)) w.heap.size (.slice (some ⟨w.heap.size, 0, none⟩) zs.length zs.length) zs :=
  ⟨⟨by unfold bval; simp, .inr ⟨w.heap.size, zs.length, _, rfl, Nat.le_refl _, heap_alloc_new _ _, Nat.le_refl _, by unfold maxLen; omega, by simp [bval], by rw [Nat.mul_one]; exact List.take_of_length_le (by simp [bval])⟩⟩, hz⟩
/-- The head of a packet, its sum not yet in it. -/
def ipH (x0 x1 : Int) (x2 x3 : Bool) (x4 x5 x6 x7 x8 : Int) (z0 : List Int) (n1 : Nat) : List Int :=
  [64 + (20 + (z0.length : Int)) / 4, x0] ++ putL (20 + (z0.length : Int) + (n1 : Int)) 2 ++ putL x1 2 ++ putL ((if x2 then 16384 else 0) + (if x3 then 8192 else 0) + x4 / 8) 2 ++ [x5, x6, 0, 0] ++ putL x7 4 ++ putL x8 4 ++ z0
def csum (zs : List Int) : Int := 65535 - fold (psum zs ((zs.length + 1) / 2))
theorem csum_bd (zs : List Int) (h : ∀ z ∈ zs, 0 ≤ z ∧ z ≤ 255) : 0 ≤ csum zs ∧ csum zs ≤ 65535 := by
  have hf := fold_bd (psum zs ((zs.length + 1) / 2)) (psum_bd h _).1
  unfold csum
  omega
def ipHead (x0 x1 : Int) (x2 x3 : Bool) (x4 x5 x6 x7 x8 : Int) (z0 : List Int) (n1 : Nat) : List Int :=
  ((ipH x0 x1 x2 x3 x4 x5 x6 x7 x8 z0 n1).set 10 (csum (ipH x0 x1 x2 x3 x4 x5 x6 x7 x8 z0 n1) / 256)).set 11 (csum (ipH x0 x1 x2 x3 x4 x5 x6 x7 x8 z0 n1) % 256)
set_option maxHeartbeats 8000000 in
theorem l05Head_walk (x0 x1 : Int) (x2 x3 : Bool) (x4 x5 x6 x7 x8 : Int) (a0 : Option Addr) (n0 c0 : Nat) (a1 : Option Addr) (n1 c1 : Nat) (z0 : List Int) (w : World) (h0 : 0 ≤ x0 ∧ x0 ≤ 255) (h1 : 0 ≤ x1) (h4 : 0 ≤ x4 ∧ x4 ≤ 65528) (h5 : 0 ≤ x5 ∧ x5 ≤ 255) (h6 : 0 ≤ x6 ∧ x6 ≤ 255) (h7 : 0 ≤ x7) (h8 : 0 ≤ x8) (hn : z0.length = n0) (ha : Arr w a0 z0) (m0 : n0 ≤ 40) (m1 : n1 ≤ 65535) :
    Calls Tryz.prog 59 #[.agg #[.int .i64 x0, .int .i64 x1, .bool x2, .bool x3, .int .i64 x4, .int .i64 x5, .int .i64 x6, .int .i64 x7, .int .i64 x8, .slice a0 n0 c0, .slice a1 n1 c1]] w fun e w' => ∃ v : Value, e = .returned v ∧ OwnB w' w.heap.size v (ipHead x0 x1 x2 x3 x4 x5 x6 x7 x8 z0 n1) ∧ Below w.heap.size w w' := by
  have HB := hide (BoxPacket.start w x0 x1 x2 x3 x4 x5 x6 x7 x8 (.slice a0 n0 c0) (.slice a1 n1 c1) 24)
  obtain ⟨_, _, k0, k1, k2, k3, k4, k5, k6, k7, k8, k9, k10⟩ := HB.out
  obtain ⟨p0, p1⟩ := h0
  have HN := hide hn
  have HA := hide ha
  have H1 := hide h1
  have H4 := hide h4
  have H5 := hide h5
  have H6 := hide h6
  have H7 := hide h7
  have H8 := hide h8
  have hs0 := World.size_alloc w (.cells #[.int .i64 x0, .int .i64 x1, .bool x2, .bool x3, .int .i64 x4, .int .i64 x5, .int .i64 x6, .int .i64 x7, .int .i64 x8, .slice a0 n0 c0, .slice a1 n1 c1] 24)
  have HS0 := hide hs0
  generalize hT : ipHead x0 x1 x2 x3 x4 x5 x6 x7 x8 z0 n1 = TT
  have HT := hide hT
  clear hn ha h1 h4 h5 h6 h7 h8 hs0 hT
  go_enter Tryz.func59, Tryz.ntmps59
  go_wp2_with fail
  generalize w.alloc (.cells #[.int .i64 x0, .int .i64 x1, .bool x2, .bool x3, .int .i64 x4, .int .i64 x5, .int .i64 x6, .int .i64 x7, .int .i64 x8, .slice a0 n0 c0, .slice a1 n1 c1] 24) = W0 at *
  have hl0 : OwnB (W0.alloc (.cells #[.int .u8 (64 + (20 + (n0 : Int)) / 4), .int .u8 x0] 5)) w.heap.size (.slice (some ⟨w.heap.size + 1, 0, none⟩) 2 2) [64 + (20 + (n0 : Int)) / 4, x0] := by
    rw [← HS0.out]
    exact (lit_own W0 [64 + (20 + (n0 : Int)) / 4, x0] (by intro z hz; simp only [List.mem_cons, List.not_mem_nil, or_false] at hz; rcases hz with rfl | rfl <;> omega) (by simp)).mono (by have := HS0.out; omega)
  have HO0 := hide hl0
  have HB0 := hide (HB.out.next ((Below.refl _ _).alloc (Nat.le_refl _) (.cells #[.int .u8 (64 + (20 + (n0 : Int)) / 4), .int .u8 x0] 5)))
  clear hl0 HB HS0 k0 k1 k2 k3 k4 k5 k6 k7 k8 k9 k10
  generalize W0.alloc (.cells #[.int .u8 (64 + (20 + (n0 : Int)) / 4), .int .u8 x0] 5) = V0 at *
  refine (put2_walk _ V0 (by omega)).mono ?_
  rintro e w1 ⟨u1, rfl, hO, hb⟩
  have HO0' := hide (HO0.out.next hb)
  have HB1 := hide (HB0.out.next hb)
  have HO1 := hide hO
  clear hO hb HO0 HB0
  go_wp2_with fail
  refine (l01Join_from _ _ _ _ w.heap.size _ _ _ (Nat.le_of_lt HB1.out.2.1) HO0'.out HO1.out (by simp) (by rw [putL_len]; omega)).mono ?_
  rintro e w2 ⟨u2, rfl, hO, hb⟩
  have HB2 := hide (HB1.out.next hb)
  have HO2 := hide hO
  clear hO hb HO0' HO1 HB1
  obtain ⟨_, _, k0, k1, k2, k3, k4, k5, k6, k7, k8, k9, k10⟩ := HB2.out
  go_wp2_with fail
  refine (put2_walk _ w2 H1.out).mono ?_
  rintro e w3 ⟨u3, rfl, hO, hb⟩
  have HO2' := hide (HO2.out.next hb)
  have HB3 := hide (HB2.out.next hb)
  have HO3 := hide hO
  clear hO hb HO2 HB2 k0 k1 k2 k3 k4 k5 k6 k7 k8 k9 k10
  go_wp2_with fail
  refine (l01Join_from _ _ _ _ w.heap.size _ _ _ (Nat.le_of_lt HB3.out.2.1) HO2'.out HO3.out (by simp [putL_len]) (by rw [putL_len]; omega)).mono ?_
  rintro e w4 ⟨u4, rfl, hO, hb⟩
  have HB4 := hide (HB3.out.next hb)
  have HO4 := hide hO
  clear hO hb HO2' HO3 HB3
  obtain ⟨_, _, k0, k1, k2, k3, k4, k5, k6, k7, k8, k9, k10⟩ := HB4.out
  go_wp2_with fail
  obtain ⟨fA, hfA⟩ : ∃ f : Int, f = (if x2 then 16384 else 0) := ⟨_, rfl⟩
  obtain ⟨fB, hfB⟩ : ∃ f : Int, f = (if x3 then 8192 else 0) := ⟨_, rfl⟩
  have bA : 0 ≤ fA ∧ fA ≤ 16384 := by rw [hfA]; split <;> omega
  have bB : 0 ≤ fB ∧ fB ≤ 8192 := by rw [hfB]; split <;> omega
  have CA := hide (fun W => by have h := l05Flag_walk x2 16384 W; rw [← hfA] at h; exact h)
  have CB := hide (fun W => by have h := l05Flag_walk x3 8192 W; rw [← hfB] at h; exact h)
  have HFA := hide hfA
  have HFB := hide hfB
  obtain ⟨r0, r1⟩ := H4.out
  have e1 : IntKind.i64.wrap (fA + fB) = fA + fB := wrap_i64' _ (by omega) (by omega)
  have e2 : x4.tdiv 8 = x4 / 8 := Int.tdiv_eq_ediv_of_nonneg r0
  have e3 : IntKind.i64.wrap (x4 / 8) = x4 / 8 := wrap_i64' _ (by omega) (by omega)
  have e4 : IntKind.i64.wrap (fA + fB + x4 / 8) = fA + fB + x4 / 8 := wrap_i64' _ (by omega) (by omega)
  have e5 : Hid (0 ≤ fA + fB + x4 / 8) := hide (by omega)
  clear hfA hfB bA bB
  have HL4 : Hid (([64 + (20 + (n0 : Int)) / 4, x0] ++ putL (20 + (n0 : Int) + (n1 : Int)) 2 ++ putL x1 2).length = 6) := hide (by simp [putL_len])
  go_region_held3 (fun w' => BoxPacket w w' x0 x1 x2 x3 x4 x5 x6 x7 x8 (.slice a0 n0 c0) (.slice a1 n1 c1)) (first | assumption | exact BoxPacket.next (by assumption) (by assumption) | exact HB4.out.drew)
    (first
      | (go_at_call_of 83 (Value.bool x2); refine (CA.out _).mono ?_; rintro e w' ⟨rfl, rfl⟩)
      | (go_at_call_of 83 (Value.bool x3); refine (CB.out _).mono ?_; rintro e w' ⟨rfl, rfl⟩)
      | (go_at_call 60; refine (put2_walk _ _ e5.out).mono ?_; rintro e w' ⟨uo, rfl, hOo, hbo⟩; have hOh := HO4.out.drew.next hbo)
      | (go_at_call 58; refine (l01Join_from _ _ _ _ w.heap.size _ _ _ (Nat.le_of_lt (by assumption : BoxPacket w _ x0 x1 x2 x3 x4 x5 x6 x7 x8 (.slice a0 n0 c0) (.slice a1 n1 c1)).2.1) hOh hOo (by rw [HL4.out]; omega) (by rw [putL_len]; omega)).mono ?_; rintro e w' ⟨uj, rfl, hOj, hbj⟩))
  rename World => w5
  have HB5 : Hid (BoxPacket w w5 x0 x1 x2 x3 x4 x5 x6 x7 x8 (.slice a0 n0 c0) (.slice a1 n1 c1)) := hide (by assumption)
  have HO5 := hide hOj
  clear hOj hOo hOh hbj hbo HO4 HB4 k0 k1 k2 k3 k4 k5 k6 k7 k8 k9 k10
  obtain ⟨_, _, k0, k1, k2, k3, k4, k5, k6, k7, k8, k9, k10⟩ := HB5.out
  obtain ⟨q50, q51⟩ := H5.out
  obtain ⟨q60, q61⟩ := H6.out
  have HL5 : Hid (([64 + (20 + (n0 : Int)) / 4, x0] ++ putL (20 + (n0 : Int) + (n1 : Int)) 2 ++ putL x1 2 ++ putL (fA + fB + x4 / 8) 2).length = 8) := hide (by rw [List.length_append, HL4.out, putL_len])
  go_wp2_with fail
  have hl5 := (lit_own w5 [x5, x6, 0, 0] (by intro z hz; simp only [List.mem_cons, List.not_mem_nil, or_false] at hz; rcases hz with rfl | rfl | rfl | rfl <;> omega) (by simp))
  have hal := (Below.refl w5.heap.size w5).alloc (Nat.le_refl _) (.cells #[.int .u8 x5, .int .u8 x6, .int .u8 0, .int .u8 0] 5)
  have HB5' := hide (HB5.out.next hal)
  have HO5' := hide (HO5.out.next hal)
  have HL : Hid (OwnB (w5.alloc (.cells #[.int .u8 x5, .int .u8 x6, .int .u8 0, .int .u8 0] 5)) w5.heap.size (.slice (some ⟨w5.heap.size, 0, none⟩) 4 4) [x5, x6, 0, 0]) := hide hl5
  clear hl5 hal HB5 HO5 k0 k1 k2 k3 k4 k5 k6 k7 k8 k9 k10
  generalize w5.alloc (.cells #[.int .u8 x5, .int .u8 x6, .int .u8 0, .int .u8 0] 5) = V5 at *
  refine (l01Join_from _ _ _ _ w.heap.size _ _ _ (Nat.le_of_lt HB5'.out.2.1) HO5'.out HL.out (by rw [HL5.out]; omega) (by simp)).mono ?_
  rintro e w6 ⟨u6, rfl, hO, hb⟩
  have HB6 := hide (HB5'.out.next hb)
  have HO6 := hide hO
  have HL6 : Hid (([64 + (20 + (n0 : Int)) / 4, x0] ++ putL (20 + (n0 : Int) + (n1 : Int)) 2 ++ putL x1 2 ++ putL (fA + fB + x4 / 8) 2 ++ [x5, x6, 0, 0]).length = 12) := hide (by rw [List.length_append, HL5.out]; rfl)
  have HL7 : Hid (([64 + (20 + (n0 : Int)) / 4, x0] ++ putL (20 + (n0 : Int) + (n1 : Int)) 2 ++ putL x1 2 ++ putL (fA + fB + x4 / 8) 2 ++ [x5, x6, 0, 0] ++ putL x7 4).length = 16) := hide (by rw [List.length_append, HL6.out, putL_len])
  have HL8 : Hid (([64 + (20 + (n0 : Int)) / 4, x0] ++ putL (20 + (n0 : Int) + (n1 : Int)) 2 ++ putL x1 2 ++ putL (fA + fB + x4 / 8) 2 ++ [x5, x6, 0, 0] ++ putL x7 4 ++ putL x8 4).length = 20) := hide (by rw [List.length_append, HL7.out, putL_len])
  clear hO hb HO5' HB5' HL HL5 HL4
  generalize hM : [64 + (20 + (n0 : Int)) / 4, x0] ++ putL (20 + (n0 : Int) + (n1 : Int)) 2 ++ putL x1 2 ++ putL (fA + fB + x4 / 8) 2 ++ [x5, x6, 0, 0] = M at *
  have HM := hide hM
  clear hM
  obtain ⟨_, _, k0, k1, k2, k3, k4, k5, k6, k7, k8, k9, k10⟩ := HB6.out
  go_wp2_with fail
  go_region_held3 (fun w' => BoxPacket w w' x0 x1 x2 x3 x4 x5 x6 x7 x8 (.slice a0 n0 c0) (.slice a1 n1 c1)) (first | assumption | exact BoxPacket.next (by assumption) (by assumption) | exact HB6.out.drew)
    (first
      | (go_at_call_of 60 (Value.int IntKind.i64 x7); refine (putw4 x7 _ H7.out).mono ?_; rintro e w' ⟨um, rfl, hOm, hbm⟩; have hOx := HO6.out.drew.next hbm)
      | (go_at_call_of 60 (Value.int IntKind.i64 x8); refine (putw4 x8 _ H8.out).mono ?_; rintro e w' ⟨us, rfl, hOs, hbs⟩; have hOj := hOj.next hbs)
      | (go_at_call 58; refine (l01Join_from _ _ _ _ w.heap.size _ _ _ (Nat.le_of_lt (by assumption : BoxPacket w _ x0 x1 x2 x3 x4 x5 x6 x7 x8 (.slice a0 n0 c0) (.slice a1 n1 c1)).2.1) hOj hOs (by rw [HL7.out]; omega) (by rw [putL_len]; omega)).mono ?_; rintro e w' ⟨uk, rfl, hOk, hbk⟩)
      | (go_at_call 58; refine (l01Join_from _ _ _ _ w.heap.size _ _ _ (Nat.le_of_lt (by assumption : BoxPacket w _ x0 x1 x2 x3 x4 x5 x6 x7 x8 (.slice a0 n0 c0) (.slice a1 n1 c1)).2.1) hOx hOm (by rw [HL6.out]; omega) (by rw [putL_len]; omega)).mono ?_; rintro e w' ⟨uj2, rfl, hOj, hbj⟩))
  rename World => w7
  have HB7 : Hid (BoxPacket w w7 x0 x1 x2 x3 x4 x5 x6 x7 x8 (.slice a0 n0 c0) (.slice a1 n1 c1)) := hide (by assumption)
  have HO7 := hide hOk
  clear hOk hOm hOs hOx hOj hbj hbk hbm hbs HO6 HB6 k0 k1 k2 k3 k4 k5 k6 k7 k8 k9 k10
  obtain ⟨_, _, k0, k1, k2, k3, k4, k5, k6, k7, k8, k9, k10⟩ := HB7.out
  go_wp2_with fail
  refine (l01Join_arr _ a0 n0 c0 _ w.heap.size _ z0 _ (Nat.le_of_lt HB7.out.2.1) HO7.out HN.out (HA.out.below HB7.out.1 (Nat.le_refl _)) (by rw [HL8.out]; omega) (by omega)).mono ?_
  rintro e w8 ⟨u8, rfl, hO, hb⟩
  have HB8 := hide (HB7.out.next hb)
  have HE : Hid (M ++ putL x7 4 ++ putL x8 4 ++ z0 = ipH x0 x1 x2 x3 x4 x5 x6 x7 x8 z0 n1) := hide (by unfold ipH; rw [← HM.out, HFA.out, HFB.out, HN.out])
  have hlen : (M ++ putL x7 4 ++ putL x8 4 ++ z0).length = 20 + n0 := by rw [List.length_append, HL8.out, HN.out]
  rw [HE.out] at hO hlen
  have hT := HT.out
  unfold ipHead at hT
  generalize ipH x0 x1 x2 x3 x4 x5 x6 x7 x8 z0 n1 = R at *
  have hr0 : 20 ≤ R.length := by omega
  have hr1 : R.length ≤ 60 := by omega
  clear hlen
  obtain ⟨g, cp, rfl, hg0, hg1⟩ := hO.form (by omega)
  have HO := hide hO
  have hbd := csum_bd R hO.2
  have CC := hide (specChecksum_walk (some ⟨g, 0, none⟩) R.length cp R w8 rfl (own_arr hO).1 (by omega))
  clear hb HO7 HB7 k0 k1 k2 k3 k4 k5 k6 k7 k8 k9 k10 HE HM hO
  have CC' : Hid (Calls Tryz.prog 61 #[.slice (some ⟨g, 0, none⟩) R.length cp] w8 fun e w' => e = .returned (.int .i64 (csum R)) ∧ w' = w8) := CC
  clear CC
  generalize csum R = S at *
  have HT2 := hide hT
  clear hT HT
  obtain ⟨sb0, sb1⟩ := hbd
  go_wp2_with fail
  refine CC'.out.mono ?_
  rintro e w9 ⟨rfl, hw9⟩
  rw [hw9]
  clear hw9 CC'
  have s1 : S / 256 < 256 := by omega
  have s2 : 0 ≤ S / 256 := by omega
  have hl10 : (10 : Int) < (R.length : Int) := by omega
  have hl11 : (11 : Int) < (R.length : Int) := by omega
  have f0 : ∀ o, w8.frozen? ⟨g, o, none⟩ = false := fun o => HO.out.1.frozenAt o
  have q10 : w8.cell? ⟨g, 10, none⟩ = some (.int .u8 (R.getD 10 0)) := by rw [HO.out.1.cellAt 10 (by omega)]; exact bval_get R 10 (by omega)
  have q11 : w8.cell? ⟨g, 11, none⟩ = some (.int .u8 (R.getD 11 0)) := by rw [HO.out.1.cellAt 11 (by omega)]; exact bval_get R 11 (by omega)
  go_wp2_with fail
  have o1 := HO.out.store rfl 10 (S / 256) s2 (by omega)
  have o2 := o1.1.store (by rw [List.length_set]) 11 (S % 256) (by omega) (by omega)
  have hbe : Below w.heap.size w ((w8.setCell ⟨g, 10, none⟩ (.int .u8 (S / 256))).setCell ⟨g, 11, none⟩ (.int .u8 (S % 256))) := (HB8.out.1.setCell (p := ⟨g, 10, none⟩) hg0 _).setCell (p := ⟨g, 11, none⟩) hg0 _
  go_ret
  exact ⟨_, rfl, by rw [← HT2.out]; exact o2.1, hbe⟩
/-- What EncodeIP tells. -/
def ipC (x0 x1 x4 x5 x6 x7 x8 : Int) (n0 n1 : Nat) : Int := if pkOK x0 x1 x4 x5 x6 x7 x8 n0 then (if 65535 < 20 + (n0 : Int) + (n1 : Int) ∨ 65535 < x4 + (n1 : Int) then 7 else 0) else 1
def ipL (x0 x1 : Int) (x2 x3 : Bool) (x4 x5 x6 x7 x8 : Int) (z0 z1 : List Int) : List Int := if ipC x0 x1 x4 x5 x6 x7 x8 z0.length z1.length = 0 then ipHead x0 x1 x2 x3 x4 x5 x6 x7 x8 z0 z1.length ++ z1 else []
theorem pkOK_parts {x0 x1 x4 x5 x6 x7 x8 : Int} {n0 : Nat} (h : pkOK x0 x1 x4 x5 x6 x7 x8 n0 = true) : (0 ≤ x0 ∧ x0 ≤ 255) ∧ (0 ≤ x1 ∧ x1 ≤ 65535) ∧ (0 ≤ x4 ∧ x4 ≤ 65528) ∧ (0 ≤ x5 ∧ x5 ≤ 255) ∧ (0 ≤ x6 ∧ x6 ≤ 255) ∧ (0 ≤ x7 ∧ x7 ≤ 4294967295) ∧ (0 ≤ x8 ∧ x8 ≤ 4294967295) ∧ n0 ≤ 40 ∧ n0 % 4 = 0 ∧ x4 % 8 = 0 := by
  unfold pkOK at h
  simp only [Bool.and_eq_true, decide_eq_true_eq, beq_iff_eq, inB_iff, adrB_iff] at h
  obtain ⟨⟨⟨⟨⟨⟨⟨⟨⟨a, b⟩, c⟩, d⟩, e⟩, f⟩, g⟩, i⟩, j⟩, k⟩ := h
  exact ⟨a, d, e, b, c, g, i, j, k, f⟩
theorem ipH_len (x0 x1 : Int) (x2 x3 : Bool) (x4 x5 x6 x7 x8 : Int) (z0 : List Int) (n1 : Nat) : (ipH x0 x1 x2 x3 x4 x5 x6 x7 x8 z0 n1).length = 20 + z0.length := by unfold ipH; simp [putL_len]; omega
theorem ipHead_len (x0 x1 : Int) (x2 x3 : Bool) (x4 x5 x6 x7 x8 : Int) (z0 : List Int) (n1 : Nat) : (ipHead x0 x1 x2 x3 x4 x5 x6 x7 x8 z0 n1).length = 20 + z0.length := by unfold ipHead; rw [List.length_set, List.length_set, ipH_len]
set_option maxHeartbeats 4000000 in
theorem specEncIP (x0 x1 : Int) (x2 x3 : Bool) (x4 x5 x6 x7 x8 : Int) (z0 z1 : List Int) (Pre : World → Prop) : EncPacketP 20 Pre x0 x1 x2 x3 x4 x5 x6 x7 x8 z0 z1 (ipL x0 x1 x2 x3 x4 x5 x6 x7 x8 z0 z1) (ipC x0 x1 x4 x5 x6 x7 x8 z0.length z1.length) := by
  intro a0 n0 c0 a1 n1 c1 w h0n h0a k0 m0 h1n h1a k1 m1 _
  have HB := hide (BoxPacket.start w x0 x1 x2 x3 x4 x5 x6 x7 x8 (.slice a0 n0 c0) (.slice a1 n1 c1) 24)
  have CK := hide (fun W => l05OK_walk x0 x1 x2 x3 x4 x5 x6 x7 x8 a0 n0 c0 a1 n1 c1 W m0)
  have HL : Hid (ipL x0 x1 x2 x3 x4 x5 x6 x7 x8 z0 z1 = if ipC x0 x1 x4 x5 x6 x7 x8 n0 n1 = 0 then ipHead x0 x1 x2 x3 x4 x5 x6 x7 x8 z0 n1 ++ z1 else []) := hide (by unfold ipL; rw [h0n, h1n])
  rw [h0n, h1n]
  obtain ⟨_, _, d0, d1, d2, d3, d4, d5, d6, d7, d8, d9, d10⟩ := HB.out
  cases h : pkOK x0 x1 x4 x5 x6 x7 x8 n0 with
  | false =>
    rw [h] at CK
    have HC : Hid (ipC x0 x1 x4 x5 x6 x7 x8 n0 n1 = 1) := hide (by unfold ipC; rw [h]; rfl)
    rw [HC.out] at HL ⊢
    rw [if_neg (by decide)] at HL
    clear h0a h1a h0n h1n h
    go_enter Tryz.func20, Tryz.ntmps20
    go_wp2_with fail
    refine (CK.out _).mono ?_
    rintro e w1 ⟨rfl, hb1⟩
    go_wp2_with fail
    go_ret2
    exact ⟨.slice none 0 0, rfl, by rw [HL.out]; exact ⟨World.ownsRow_nil _ _ _ _, by simp⟩, (HB.out.next hb1).1⟩
  | true =>
    rw [h] at CK
    obtain ⟨p0, p1, p4, p5, p6, p7, p8, pn, _, _⟩ := pkOK_parts h
    have CH := hide (fun W (hb : Below w.heap.size w W) (hq : n1 ≤ 65535) => l05Head_walk x0 x1 x2 x3 x4 x5 x6 x7 x8 a0 n0 c0 a1 n1 c1 z0 W p0 p1.1 p4 p5 p6 p7.1 p8.1 h0n (h0a.below hb (Nat.le_refl _)) pn hq)
    have HA1 := hide h1a
    have HN1 := hide h1n
    have hlH : Hid ((ipHead x0 x1 x2 x3 x4 x5 x6 x7 x8 z0 n1).length ≤ 1048576) := hide (by rw [ipHead_len]; omega)
    obtain ⟨q0, q1⟩ := p4
    by_cases hs : 65535 < 20 + (n0 : Int) + (n1 : Int)
    · have HC : Hid (ipC x0 x1 x4 x5 x6 x7 x8 n0 n1 = 7) := hide (by unfold ipC; rw [h, if_pos rfl, if_pos (.inl hs)])
      rw [HC.out] at HL ⊢
      rw [if_neg (by decide)] at HL
      clear h0a h1a h0n h1n h CH
      go_enter Tryz.func20, Tryz.ntmps20
      go_wp2_with fail
      refine (CK.out _).mono ?_
      rintro e w1 ⟨rfl, hb1⟩
      have HB1 := hide (HB.out.next hb1)
      clear hb1 HB d0 d1 d2 d3 d4 d5 d6 d7 d8 d9 d10
      obtain ⟨_, _, d0, d1, d2, d3, d4, d5, d6, d7, d8, d9, d10⟩ := HB1.out
      go_wp2_with fail
      go_ret2
      exact ⟨.slice none 0 0, rfl, by rw [HL.out]; exact ⟨World.ownsRow_nil _ _ _ _, by simp⟩, HB1.out.1⟩
    · by_cases ho : 65535 < x4 + (n1 : Int)
      · have HC : Hid (ipC x0 x1 x4 x5 x6 x7 x8 n0 n1 = 7) := hide (by unfold ipC; rw [h, if_pos rfl, if_pos (.inr ho)])
        rw [HC.out] at HL ⊢
        rw [if_neg (by decide)] at HL
        clear h0a h1a h0n h1n h CH
        go_enter Tryz.func20, Tryz.ntmps20
        go_wp2_with fail
        refine (CK.out _).mono ?_
        rintro e w1 ⟨rfl, hb1⟩
        have HB1 := hide (HB.out.next hb1)
        clear hb1 HB d0 d1 d2 d3 d4 d5 d6 d7 d8 d9 d10
        obtain ⟨_, _, d0, d1, d2, d3, d4, d5, d6, d7, d8, d9, d10⟩ := HB1.out
        go_wp2_with fail
        go_ret2
        exact ⟨.slice none 0 0, rfl, by rw [HL.out]; exact ⟨World.ownsRow_nil _ _ _ _, by simp⟩, HB1.out.1⟩
      · have HC : Hid (ipC x0 x1 x4 x5 x6 x7 x8 n0 n1 = 0) := hide (by unfold ipC; rw [h, if_pos rfl, if_neg (by omega)])
        rw [HC.out] at HL ⊢
        rw [if_pos rfl] at HL
        clear h0a h1a h0n h1n h
        generalize ipHead x0 x1 x2 x3 x4 x5 x6 x7 x8 z0 n1 = HH at *
        go_enter Tryz.func20, Tryz.ntmps20
        go_wp2_with fail
        refine (CK.out _).mono ?_
        rintro e w1 ⟨rfl, hb1⟩
        have HB1 := hide (HB.out.next hb1)
        clear hb1 HB d0 d1 d2 d3 d4 d5 d6 d7 d8 d9 d10
        obtain ⟨_, _, d0, d1, d2, d3, d4, d5, d6, d7, d8, d9, d10⟩ := HB1.out
        go_wp2_with fail
        go_region_held3 (fun w' => BoxPacket w w' x0 x1 x2 x3 x4 x5 x6 x7 x8 (.slice a0 n0 c0) (.slice a1 n1 c1)) (first | assumption | exact BoxPacket.next (by assumption) (by assumption) | exact HB1.out.drew)
          (first
            | (go_at_call 59; refine (CH.out _ (by assumption : BoxPacket w _ x0 x1 x2 x3 x4 x5 x6 x7 x8 (.slice a0 n0 c0) (.slice a1 n1 c1)).1 (by omega)).mono ?_; rintro e w' ⟨uh, rfl, hOh, hbh⟩)
            | (go_at_call 58; refine (l01Join_arr _ a1 n1 c1 _ w.heap.size _ z1 _ (Nat.le_of_lt (by assumption : BoxPacket w _ x0 x1 x2 x3 x4 x5 x6 x7 x8 (.slice a0 n0 c0) (.slice a1 n1 c1)).2.1) hOh HN1.out (HA1.out.below (by assumption : BoxPacket w _ x0 x1 x2 x3 x4 x5 x6 x7 x8 (.slice a0 n0 c0) (.slice a1 n1 c1)).1 (Nat.le_refl _)) hlH.out (by omega)).mono ?_; rintro e w' ⟨uj, rfl, hOj, hbj⟩))
        all_goals go_wp2_with fail
        all_goals go_ret2
        all_goals exact ⟨uj, rfl, by rw [HL.out]; exact hOj, (by assumption : BoxPacket w _ x0 x1 x2 x3 x4 x5 x6 x7 x8 (.slice a0 n0 c0) (.slice a1 n1 c1)).1⟩
end
set_option maxRecDepth 100000
/-- An Icmp's bytes, its sum not yet in it. -/
def icH (t c r : Int) (z : List Int) : List Int := [t, c, 0, 0] ++ putL r 4 ++ z
def icOK (t c r : Int) : Bool := inB t 0 255 && inB c 0 255 && inB r 0 4294967295
def icC (t c r : Int) (n : Nat) : Int := if icOK t c r then (if 65000 < n then 7 else 0) else 1
def icL (t c r : Int) (z : List Int) : List Int := if icC t c r z.length = 0 then ((icH t c r z).set 2 (csum (icH t c r z) / 256)).set 3 (csum (icH t c r z) % 256) else []
theorem icH_len (t c r : Int) (z : List Int) : (icH t c r z).length = 8 + z.length := by unfold icH; simp [putL_len]; omega
set_option maxHeartbeats 4000000 in
theorem specEncIcmp_form (t c r : Int) (a : Option Addr) (n cap : Nat) (w : World) (h : icOK t c r = false) :
    Calls Tryz.prog 21 #[.agg #[.int .i64 t, .int .i64 c, .int .i64 r, .slice a n cap]] w fun e w' => e = .returned (.tuple #[.slice none 0 0, .int .i64 1]) ∧ Below w.heap.size w w' := by
  have HB := hide (BoxIcmp.start w t c r (.slice a n cap) 34)
  obtain ⟨_, _, k0, k1, k2, k3⟩ := HB.out
  cases h0 : inB t 0 255 with
  | false =>
    clear h
    go_enter Tryz.func21, Tryz.ntmps21
    go_wp2_with (first | (go_at_call 19; refine (In_walk _ _ _ _).mono ?_; rintro e w' ⟨rfl, rfl⟩))
    go_ret2
    exact ⟨rfl, HB.out.1⟩
  | true =>
    cases h1 : inB c 0 255 with
    | false =>
      clear h
      go_enter Tryz.func21, Tryz.ntmps21
      go_wp2_with (first | (go_at_call 19; refine (In_walk _ _ _ _).mono ?_; rintro e w' ⟨rfl, rfl⟩))
      go_ret2
      exact ⟨rfl, HB.out.1⟩
    | true =>
      have h2 : inB r 0 4294967295 = false := by unfold icOK at h; rw [h0, h1] at h; simpa using h
      clear h
      go_enter Tryz.func21, Tryz.ntmps21
      go_wp2_with (first | (go_at_call 19; refine (In_walk _ _ _ _).mono ?_; rintro e w' ⟨rfl, rfl⟩))
      go_ret2
      exact ⟨rfl, HB.out.1⟩
theorem icOK_parts {t c r : Int} (h : icOK t c r = true) : inB t 0 255 = true ∧ inB c 0 255 = true ∧ inB r 0 4294967295 = true := by
  unfold icOK at h
  simp only [Bool.and_eq_true] at h
  exact ⟨h.1.1, h.1.2, h.2⟩
set_option maxHeartbeats 4000000 in
theorem specEncIcmp_size (t c r : Int) (a : Option Addr) (n cap : Nat) (w : World) (h : icOK t c r = true) (hn : 65000 < n) (hm : n ≤ 1048576) :
    Calls Tryz.prog 21 #[.agg #[.int .i64 t, .int .i64 c, .int .i64 r, .slice a n cap]] w fun e w' => e = .returned (.tuple #[.slice none 0 0, .int .i64 7]) ∧ Below w.heap.size w w' := by
  have HB := hide (BoxIcmp.start w t c r (.slice a n cap) 34)
  obtain ⟨_, _, k0, k1, k2, k3⟩ := HB.out
  obtain ⟨h0, h1, h2⟩ := icOK_parts h
  have hn' : (65000 : Int) < (n : Int) := by omega
  clear h
  go_enter Tryz.func21, Tryz.ntmps21
  go_wp2_with (first | (go_at_call 19; refine (In_walk _ _ _ _).mono ?_; rintro e w' ⟨rfl, rfl⟩))
  go_ret2
  exact ⟨rfl, HB.out.1⟩
theorem lit4_own (w : World) (p q r s : Int) (h : ∀ z ∈ [p, q, r, s], 0 ≤ z ∧ z ≤ 255) : OwnB (w.alloc (.cells #[.int .u8 p, .int .u8 q, .int .u8 r, .int .u8 s] 5)) w.heap.size (.slice (some ⟨w.heap.size, 0, none⟩) 4 4) [p, q, r, s] := lit_own w _ h (by simp)
set_option maxHeartbeats 4000000 in
theorem specEncIcmp_ok (t c r : Int) (a : Option Addr) (n cap : Nat) (z : List Int) (w : World) (h : icOK t c r = true) (hn : n ≤ 65000) (hz : z.length = n) (ha : Arr w a z) :
    Calls Tryz.prog 21 #[.agg #[.int .i64 t, .int .i64 c, .int .i64 r, .slice a n cap]] w fun e w' => ∃ v : Value, e = .returned (.tuple #[v, .int .i64 0]) ∧ OwnB w' w.heap.size v (((icH t c r z).set 2 (csum (icH t c r z) / 256)).set 3 (csum (icH t c r z) % 256)) ∧ Below w.heap.size w w' := by
  have HB := hide (BoxIcmp.start w t c r (.slice a n cap) 34)
  obtain ⟨_, _, k0, k1, k2, k3⟩ := HB.out
  obtain ⟨h0, h1, h2⟩ := icOK_parts h
  obtain ⟨t0, t1⟩ := inB_iff.1 h0
  obtain ⟨c0, c1⟩ := inB_iff.1 h1
  have HR := hide (inB_iff.1 h2).1
  have hn' : ¬ (65000 : Int) < (n : Int) := by omega
  have HN := hide hz
  have HA := hide ha
  generalize hT : ((icH t c r z).set 2 (csum (icH t c r z) / 256)).set 3 (csum (icH t c r z) % 256) = TT
  have HT := hide hT
  clear h hz ha hT
  go_enter Tryz.func21, Tryz.ntmps21
  go_wp2_with (first | (go_at_call 19; refine (In_walk _ _ _ _).mono ?_; rintro e w' ⟨rfl, rfl⟩))
  have hbl : ∀ q ∈ [t, c, 0, 0], 0 ≤ q ∧ q ≤ 255 := by intro q hq; simp only [List.mem_cons, List.not_mem_nil, or_false] at hq; rcases hq with rfl | rfl | rfl | rfl <;> omega
  have HBL := hide hbl
  have e1 : IntKind.u8.wrap t = t := by rw [IntKind.wrap_u8]; omega
  have e2 : IntKind.u8.wrap c = c := by rw [IntKind.wrap_u8]; omega
  clear hbl h0 h1 h2
  generalize w.alloc (.cells #[.int .i64 t, .int .i64 c, .int .i64 r, .slice a n cap] 34) = W0 at *
  have HL0 : Hid (OwnB (W0.alloc (.cells #[.int .u8 t, .int .u8 c, .int .u8 0, .int .u8 0] 5)).drew W0.heap.size (.slice (some ⟨W0.heap.size, 0, none⟩) 4 4) [t, c, 0, 0]) := hide (lit_own W0 [t, c, 0, 0] HBL.out (by simp)).drew
  go_region_held3 (fun w' => BoxIcmp w w' t c r (.slice a n cap)) (with_reducible first | assumption | exact HB.out.drew | exact BoxIcmp.next (by assumption) hbj | exact BoxIcmp.next (by assumption) hbo | exact BoxIcmp.next (by assumption) ((Below.refl _ _).alloc (Nat.le_refl _) _))
    (first
      | (go_at_call 60; refine (putw4 r _ HR.out).mono ?_; rintro e w' ⟨uo, rfl, hOo, hbo⟩)
      | (go_at_call 58; first | (refine (l01Join_from _ _ _ _ w.heap.size _ _ _ (Nat.le_of_lt (by with_reducible assumption : BoxIcmp w _ t c r (.slice a n cap)).2.1) (HL0.out.next hbo) hOo (by simp) (by rw [putL_len]; omega)).mono ?_; rintro e w' ⟨uj, rfl, hOj, hbj⟩) | (refine (l01Join_from _ _ _ _ w.heap.size _ _ _ (Nat.le_of_lt (by with_reducible assumption : BoxIcmp w _ t c r (.slice a n cap)).2.1) (lit4_own _ t c 0 0 HBL.out) (hOo.next ((Below.refl _ _).alloc (Nat.le_refl _) _)) (by simp) (by rw [putL_len]; omega)).mono ?_; rintro e w' ⟨uj, rfl, hOj, hbj⟩)))
  all_goals
    rename World => w2
    have HB2 : Hid (BoxIcmp w w2 t c r (.slice a n cap)) := hide (by assumption)
    have HO2 := hide hOj
    clear hOj hOo hbj hbo HL0 HB k0 k1 k2 k3
    obtain ⟨_, _, k0, k1, k2, k3⟩ := HB2.out
    go_wp2_with fail
    refine (l01Join_arr _ a n cap _ w.heap.size _ z _ HB2.out.1.size HO2.out HN.out (HA.out.below HB2.out.1 (Nat.le_refl _)) (by rw [List.length_append, putL_len]; simp) (by omega)).mono ?_
    rintro e w8 ⟨u8, rfl, hO, hb⟩
    have HB8 := hide (HB2.out.next hb)
    have hlen : ([t, c, 0, 0] ++ putL r 4 ++ z).length = 8 + n := by rw [← HN.out]; exact icH_len t c r z
    have hT := HT.out
    rw [show icH t c r z = [t, c, 0, 0] ++ putL r 4 ++ z from rfl] at hT
    clear hb HO2 HB2 k0 k1 k2 k3
    generalize [t, c, 0, 0] ++ putL r 4 ++ z = R at *
    have hr0 : 8 ≤ R.length := by omega
    have hr1 : R.length ≤ 65008 := by omega
    clear hlen
    obtain ⟨g, cp, rfl, hg0, hg1⟩ := hO.form (by omega)
    have HO := hide hO
    have hbd := csum_bd R hO.2
    have CC : Hid (Calls Tryz.prog 61 #[.slice (some ⟨g, 0, none⟩) R.length cp] w8 fun e w' => e = .returned (.int .i64 (csum R)) ∧ w' = w8) := hide (specChecksum_walk (some ⟨g, 0, none⟩) R.length cp R w8 rfl (own_arr hO).1 (by omega))
    clear hO
    generalize csum R = S at *
    have HT2 := hide hT
    clear hT HT
    obtain ⟨sb0, sb1⟩ := hbd
    go_wp2_with fail
    refine CC.out.mono ?_
    rintro e w9 ⟨rfl, hw9⟩
    rw [hw9]
    clear hw9 CC
    have s1 : S / 256 < 256 := by omega
    have s2 : 0 ≤ S / 256 := by omega
    have hl2 : (2 : Int) < (R.length : Int) := by omega
    have hl3 : (3 : Int) < (R.length : Int) := by omega
    have f0 : ∀ o, w8.frozen? ⟨g, o, none⟩ = false := fun o => HO.out.1.frozenAt o
    have q2 : w8.cell? ⟨g, 2, none⟩ = some (.int .u8 (R.getD 2 0)) := by rw [HO.out.1.cellAt 2 (by omega)]; exact bval_get R 2 (by omega)
    have q3 : w8.cell? ⟨g, 3, none⟩ = some (.int .u8 (R.getD 3 0)) := by rw [HO.out.1.cellAt 3 (by omega)]; exact bval_get R 3 (by omega)
    go_wp2_with fail
    have o1 := HO.out.store rfl 2 (S / 256) s2 (by omega)
    have o2 := o1.1.store (by rw [List.length_set]) 3 (S % 256) (by omega) (by omega)
    have hbe : Below w.heap.size w ((w8.setCell ⟨g, 2, none⟩ (.int .u8 (S / 256))).setCell ⟨g, 3, none⟩ (.int .u8 (S % 256))) := (HB8.out.1.setCell (p := ⟨g, 2, none⟩) hg0 _).setCell (p := ⟨g, 3, none⟩) hg0 _
    go_ret2
    exact ⟨_, rfl, by rw [← HT2.out]; exact o2.1, hbe⟩
/-- EncodeIcmp of the model. -/
theorem specEncIcmp (t c r : Int) (z : List Int) (Pre : World → Prop) : EncIcmpP 21 Pre t c r z (icL t c r z) (icC t c r z.length) := by
  intro a n cap W hn ha _ hm _
  subst hn
  have bad : ∀ q : Int, icC t c r z.length = q → ¬ q = 0 → ∀ e w', e = Ending.returned (.tuple #[.slice none 0 0, .int .i64 q]) ∧ Below W.heap.size W w' → ∃ v : Value, e = .returned (.tuple #[v, .int .i64 (icC t c r z.length)]) ∧ OwnB w' W.heap.size v (icL t c r z) ∧ Below W.heap.size W w' := by
    rintro q hq h0 e w' ⟨rfl, hb⟩
    refine ⟨_, by rw [hq], ?_, hb⟩
    unfold icL
    rw [hq, if_neg h0]
    exact ⟨World.ownsRow_nil _ _ _ _, by simp⟩
  cases h : icOK t c r with
  | false => exact (specEncIcmp_form t c r a _ cap W h).mono (bad 1 (by unfold icC; rw [h]; rfl) (by decide))
  | true =>
    by_cases hs : 65000 < z.length
    · exact (specEncIcmp_size t c r a _ cap W h hs hm).mono (bad 7 (by unfold icC; rw [h, if_pos rfl, if_pos hs]) (by decide))
    · have hC : icC t c r z.length = 0 := by unfold icC; rw [h, if_pos rfl, if_neg hs]
      refine (specEncIcmp_ok t c r a _ cap z W h (by omega) rfl ha).mono ?_
      rintro e w' ⟨v, rfl, hO, hb⟩
      exact ⟨v, by rw [hC], by unfold icL; rw [hC, if_pos rfl]; exact hO, hb⟩
set_option maxRecDepth 100000
theorem fits4_walk (x : Int) (w : World) : Calls Tryz.prog 66 #[.int .i64 4, .int .i64 x] w fun e w' => e = .returned (.bool (inB x 0 4294967295)) ∧ w' = w := by
  go_enter Tryz.func66, Tryz.ntmps66
  go_wp2
  go_ret
  exact ⟨ret_bool (fits_eq x 4294967296 4294967295 (by omega) (by omega)), rfl⟩
set_option maxHeartbeats 2000000 in
theorem validIcmp_walk (t c r : Int) (a : Option Addr) (n cap : Nat) (w : World) : Calls Tryz.prog 65 #[.agg #[.int .i64 t, .int .i64 c, .int .i64 r, .slice a n cap]] w fun e w' => e = .returned (.bool (icOK t c r)) ∧ Below w.heap.size w w' := by
  have HB := hide (BoxIcmp.start w t c r (.slice a n cap) 34)
  obtain ⟨_, _, k0, k1, k2, k3⟩ := HB.out
  cases h0 : inB t 0 255 with
  | false =>
    have E : Hid (icOK t c r = false) := hide (by unfold icOK; rw [h0]; rfl)
    go_enter Tryz.func65, Tryz.ntmps65
    go_wp2_with (first | (go_at_call_of 66 (Value.int IntKind.i64 1); refine (fits1_walk _ _).mono ?_; rintro e w' ⟨rfl, rfl⟩) | (go_at_call_of 66 (Value.int IntKind.i64 4); refine (fits4_walk _ _).mono ?_; rintro e w' ⟨rfl, rfl⟩))
    go_ret
    exact ⟨ret_bool E.out.symm, HB.out.1⟩
  | true =>
    cases h1 : inB c 0 255 with
    | false =>
      have E : Hid (icOK t c r = false) := hide (by unfold icOK; rw [h0, h1]; rfl)
      go_enter Tryz.func65, Tryz.ntmps65
      go_wp2_with (first | (go_at_call_of 66 (Value.int IntKind.i64 1); refine (fits1_walk _ _).mono ?_; rintro e w' ⟨rfl, rfl⟩) | (go_at_call_of 66 (Value.int IntKind.i64 4); refine (fits4_walk _ _).mono ?_; rintro e w' ⟨rfl, rfl⟩))
      go_ret
      exact ⟨ret_bool E.out.symm, HB.out.1⟩
    | true =>
      cases h2 : inB r 0 4294967295 with
      | false =>
        have E : Hid (icOK t c r = false) := hide (by unfold icOK; rw [h0, h1, h2]; rfl)
        go_enter Tryz.func65, Tryz.ntmps65
        go_wp2_with (first | (go_at_call_of 66 (Value.int IntKind.i64 1); refine (fits1_walk _ _).mono ?_; rintro e w' ⟨rfl, rfl⟩) | (go_at_call_of 66 (Value.int IntKind.i64 4); refine (fits4_walk _ _).mono ?_; rintro e w' ⟨rfl, rfl⟩))
        go_ret
        exact ⟨ret_bool E.out.symm, HB.out.1⟩
      | true =>
        have E : Hid (icOK t c r = true) := hide (by unfold icOK; rw [h0, h1, h2]; rfl)
        go_enter Tryz.func65, Tryz.ntmps65
        go_wp2_with (first | (go_at_call_of 66 (Value.int IntKind.i64 1); refine (fits1_walk _ _).mono ?_; rintro e w' ⟨rfl, rfl⟩) | (go_at_call_of 66 (Value.int IntKind.i64 4); refine (fits4_walk _ _).mono ?_; rintro e w' ⟨rfl, rfl⟩))
        go_ret
        exact ⟨ret_bool E.out.symm, HB.out.1⟩
/-- The message of an Icmp, behind its interface. -/
def msgV (t c r : Int) (v : Value) : Value :=
  if t = 8 then .iface 101 (.agg #[.int .i64 c, .int .i64 r, v])
  else if t = 0 then .iface 102 (.agg #[.int .i64 c, .int .i64 r, v])
  else if t = 3 then .iface 103 (.agg #[.int .i64 c, .int .i64 r, v])
  else if t = 11 then .iface 104 (.agg #[.int .i64 c, .int .i64 r, v])
  else .iface 106 (.agg #[.int .i64 t, .int .i64 c, .int .i64 r, v])
def aboutN (t : Int) : Int := if t = 8 then 1 else if t = 0 then 1 else if t = 3 then 2 else if t = 11 then 2 else 0
set_option maxHeartbeats 4000000 in
theorem messageOf_walk (t c r : Int) (a : Option Addr) (n cap : Nat) (w : World) : Calls Tryz.prog 29 #[.agg #[.int .i64 t, .int .i64 c, .int .i64 r, .slice a n cap]] w fun e w' => e = .returned (msgV t c r (.slice a n cap)) ∧ Below w.heap.size w w' := by
  by_cases h1 : t = 8
  · subst h1
    go_enter Tryz.func29, Tryz.ntmps29
    go_wp2
    go_ret
    exact ⟨rfl, (two_allocs w _ _).1⟩
  by_cases h2 : t = 0
  · subst h2
    go_enter Tryz.func29, Tryz.ntmps29
    go_wp2
    go_ret
    exact ⟨rfl, (two_allocs w _ _).1⟩
  by_cases h3 : t = 3
  · subst h3
    go_enter Tryz.func29, Tryz.ntmps29
    go_wp2
    go_ret
    exact ⟨rfl, (two_allocs w _ _).1⟩
  by_cases h4 : t = 11
  · subst h4
    go_enter Tryz.func29, Tryz.ntmps29
    go_wp2
    go_ret
    exact ⟨rfl, (two_allocs w _ _).1⟩
  have E : Hid (msgV t c r (.slice a n cap) = .iface 106 (.agg #[.int .i64 t, .int .i64 c, .int .i64 r, .slice a n cap])) := hide (by unfold msgV; rw [if_neg h1, if_neg h2, if_neg h3, if_neg h4])
  rw [E.out]
  go_enter Tryz.func29, Tryz.ntmps29
  go_wp2
  go_ret
  exact ⟨rfl, (two_allocs w _ _).1⟩
theorem ta_echo_echo (V : Value) (w : World) : (Instr.typeAssert (.iface 101 V) 59 101 true).run Tryz.prog w = .ok (.tuple #[V, .bool true]) w := by kernel_rfl
theorem ta_echo_echoReply (V : Value) (w : World) : (Instr.typeAssert (.iface 101 V) 59 102 true).run Tryz.prog w = .ok (.tuple #[.agg #[.int .i64 0, .int .i64 0, .slice none 0 0], .bool false]) w := by kernel_rfl
theorem ta_echo_unreachable (V : Value) (w : World) : (Instr.typeAssert (.iface 101 V) 59 103 true).run Tryz.prog w = .ok (.tuple #[.agg #[.int .i64 0, .int .i64 0, .slice none 0 0], .bool false]) w := by kernel_rfl
theorem ta_echo_exceeded (V : Value) (w : World) : (Instr.typeAssert (.iface 101 V) 59 104 true).run Tryz.prog w = .ok (.tuple #[.agg #[.int .i64 0, .int .i64 0, .slice none 0 0], .bool false]) w := by kernel_rfl
theorem ta_echoReply_echo (V : Value) (w : World) : (Instr.typeAssert (.iface 102 V) 59 101 true).run Tryz.prog w = .ok (.tuple #[.agg #[.int .i64 0, .int .i64 0, .slice none 0 0], .bool false]) w := by kernel_rfl
theorem ta_echoReply_echoReply (V : Value) (w : World) : (Instr.typeAssert (.iface 102 V) 59 102 true).run Tryz.prog w = .ok (.tuple #[V, .bool true]) w := by kernel_rfl
theorem ta_echoReply_unreachable (V : Value) (w : World) : (Instr.typeAssert (.iface 102 V) 59 103 true).run Tryz.prog w = .ok (.tuple #[.agg #[.int .i64 0, .int .i64 0, .slice none 0 0], .bool false]) w := by kernel_rfl
theorem ta_echoReply_exceeded (V : Value) (w : World) : (Instr.typeAssert (.iface 102 V) 59 104 true).run Tryz.prog w = .ok (.tuple #[.agg #[.int .i64 0, .int .i64 0, .slice none 0 0], .bool false]) w := by kernel_rfl
theorem ta_unreachable_echo (V : Value) (w : World) : (Instr.typeAssert (.iface 103 V) 59 101 true).run Tryz.prog w = .ok (.tuple #[.agg #[.int .i64 0, .int .i64 0, .slice none 0 0], .bool false]) w := by kernel_rfl
theorem ta_unreachable_echoReply (V : Value) (w : World) : (Instr.typeAssert (.iface 103 V) 59 102 true).run Tryz.prog w = .ok (.tuple #[.agg #[.int .i64 0, .int .i64 0, .slice none 0 0], .bool false]) w := by kernel_rfl
theorem ta_unreachable_unreachable (V : Value) (w : World) : (Instr.typeAssert (.iface 103 V) 59 103 true).run Tryz.prog w = .ok (.tuple #[V, .bool true]) w := by kernel_rfl
theorem ta_unreachable_exceeded (V : Value) (w : World) : (Instr.typeAssert (.iface 103 V) 59 104 true).run Tryz.prog w = .ok (.tuple #[.agg #[.int .i64 0, .int .i64 0, .slice none 0 0], .bool false]) w := by kernel_rfl
theorem ta_exceeded_echo (V : Value) (w : World) : (Instr.typeAssert (.iface 104 V) 59 101 true).run Tryz.prog w = .ok (.tuple #[.agg #[.int .i64 0, .int .i64 0, .slice none 0 0], .bool false]) w := by kernel_rfl
theorem ta_exceeded_echoReply (V : Value) (w : World) : (Instr.typeAssert (.iface 104 V) 59 102 true).run Tryz.prog w = .ok (.tuple #[.agg #[.int .i64 0, .int .i64 0, .slice none 0 0], .bool false]) w := by kernel_rfl
theorem ta_exceeded_unreachable (V : Value) (w : World) : (Instr.typeAssert (.iface 104 V) 59 103 true).run Tryz.prog w = .ok (.tuple #[.agg #[.int .i64 0, .int .i64 0, .slice none 0 0], .bool false]) w := by kernel_rfl
theorem ta_exceeded_exceeded (V : Value) (w : World) : (Instr.typeAssert (.iface 104 V) 59 104 true).run Tryz.prog w = .ok (.tuple #[V, .bool true]) w := by kernel_rfl
theorem ta_foreign_echo (V : Value) (w : World) : (Instr.typeAssert (.iface 106 V) 59 101 true).run Tryz.prog w = .ok (.tuple #[.agg #[.int .i64 0, .int .i64 0, .slice none 0 0], .bool false]) w := by kernel_rfl
theorem ta_foreign_echoReply (V : Value) (w : World) : (Instr.typeAssert (.iface 106 V) 59 102 true).run Tryz.prog w = .ok (.tuple #[.agg #[.int .i64 0, .int .i64 0, .slice none 0 0], .bool false]) w := by kernel_rfl
theorem ta_foreign_unreachable (V : Value) (w : World) : (Instr.typeAssert (.iface 106 V) 59 103 true).run Tryz.prog w = .ok (.tuple #[.agg #[.int .i64 0, .int .i64 0, .slice none 0 0], .bool false]) w := by kernel_rfl
theorem ta_foreign_exceeded (V : Value) (w : World) : (Instr.typeAssert (.iface 106 V) 59 104 true).run Tryz.prog w = .ok (.tuple #[.agg #[.int .i64 0, .int .i64 0, .slice none 0 0], .bool false]) w := by kernel_rfl
set_option maxHeartbeats 4000000 in
theorem aboutWhat_walk (t c r : Int) (v : Value) (w : World) : Calls Tryz.prog 28 #[msgV t c r v] w fun e w' => e = .returned (.int .i64 (aboutN t)) ∧ w' = w := by
  by_cases h8 : t = 8
  · subst h8
    show Calls Tryz.prog 28 #[.iface 101 (.agg #[.int .i64 c, .int .i64 r, v])] w fun e w' => e = .returned (.int .i64 1) ∧ w' = w
    have a0 := ta_echo_echo
    have a1 := ta_echo_echoReply
    have a2 := ta_echo_unreachable
    have a3 := ta_echo_exceeded
    go_enter Tryz.func28, Tryz.ntmps28
    go_wp2
    go_ret
    exact ⟨rfl, rfl⟩
  by_cases h0 : t = 0
  · subst h0
    show Calls Tryz.prog 28 #[.iface 102 (.agg #[.int .i64 c, .int .i64 r, v])] w fun e w' => e = .returned (.int .i64 1) ∧ w' = w
    have a0 := ta_echoReply_echo
    have a1 := ta_echoReply_echoReply
    have a2 := ta_echoReply_unreachable
    have a3 := ta_echoReply_exceeded
    go_enter Tryz.func28, Tryz.ntmps28
    go_wp2
    go_ret
    exact ⟨rfl, rfl⟩
  by_cases h3 : t = 3
  · subst h3
    show Calls Tryz.prog 28 #[.iface 103 (.agg #[.int .i64 c, .int .i64 r, v])] w fun e w' => e = .returned (.int .i64 2) ∧ w' = w
    have a0 := ta_unreachable_echo
    have a1 := ta_unreachable_echoReply
    have a2 := ta_unreachable_unreachable
    have a3 := ta_unreachable_exceeded
    go_enter Tryz.func28, Tryz.ntmps28
    go_wp2
    go_ret
    exact ⟨rfl, rfl⟩
  by_cases h11 : t = 11
  · subst h11
    show Calls Tryz.prog 28 #[.iface 104 (.agg #[.int .i64 c, .int .i64 r, v])] w fun e w' => e = .returned (.int .i64 2) ∧ w' = w
    have a0 := ta_exceeded_echo
    have a1 := ta_exceeded_echoReply
    have a2 := ta_exceeded_unreachable
    have a3 := ta_exceeded_exceeded
    go_enter Tryz.func28, Tryz.ntmps28
    go_wp2
    go_ret
    exact ⟨rfl, rfl⟩
  have E : msgV t c r v = .iface 106 (.agg #[.int .i64 t, .int .i64 c, .int .i64 r, v]) := by unfold msgV; rw [if_neg h8, if_neg h0, if_neg h3, if_neg h11]
  have E2 : aboutN t = 0 := by unfold aboutN; rw [if_neg h8, if_neg h0, if_neg h3, if_neg h11]
  rw [E, E2]
  have a0 := ta_foreign_echo
  have a1 := ta_foreign_echoReply
  have a2 := ta_foreign_unreachable
  have a3 := ta_foreign_exceeded
  go_enter Tryz.func28, Tryz.ntmps28
  go_wp2
  go_ret
  exact ⟨rfl, rfl⟩
set_option maxRecDepth 100000
/-- A slice of nothing, wherever it lies. -/
theorem sl_nothing (b off n cap p : Nat) (hh : p ≤ cap) : ∃ a' : Option Addr, ∀ w : World, (Instr.slice 22 (.slice (some ⟨b, off, none⟩) n cap) (some (.int .i64 (p : Int))) (some (.int .i64 (p : Int))) none).run Tryz.prog w = .ok (.slice a' 0 (cap - p)) w := by
  have hs : ∀ w : World, (sizeOf (Tryz.prog.elem 22)).run Tryz.prog w = .ok 1 w := fun w => Tryz.sizeOf5 w
  have he := fun w : World => run_slice_lh (P := Tryz.prog) (w := w) 22 (some ⟨b, off, none⟩) n cap Tryz.underlying22 .i64 .i64 (p : Int) (p : Int) (by omega) (by omega) (by omega)
  refine ⟨if cap = p then some ⟨b, off, none⟩ else some ((⟨b, off, none⟩ : Addr).add p), fun w => ?_⟩
  rw [he, hs]
  simp [sliced, Result.andThen]
set_option maxHeartbeats 1000000 in
theorem pass_zero (g p n cap b off : Nat) (w : World) (hc : Cur w g (.slice (some ⟨b, off, none⟩) n cap) p .nilIface) (hn : n ≤ 140737488355328) (hp : p ≤ n) (hcap : n ≤ cap) :
    Calls Tryz.prog 45 #[.pointer (some ⟨g, 0, none⟩), .int .i64 0] w fun e w' => ∃ a', e = .returned (.slice a' 0 (cap - p)) ∧ Cur w' g (.slice (some ⟨b, off, none⟩) n cap) p .nilIface ∧ w.grownBy w' (some g) := by
  have CL := hide (left_walk g p n cap (some ⟨b, off, none⟩) .nilIface w hc hn (by omega))
  have HC := hide hc
  obtain ⟨c0, c1, c2, cf⟩ := hc.cells
  have hk1 : (0 : Int) ≤ (n : Int) - (p : Int) := by omega
  obtain ⟨a', sl⟩ := sl_nothing b off n cap p (by omega)
  clear hc
  go_enter Tryz.func45, Tryz.ntmps45
  go_wp2_with fail
  refine CL.out.mono ?_
  rintro e w1 ⟨rfl, m, rfl⟩
  go_wp2_with fail
  refine (demand_yes g p _ _ _ (HC.out.drewN m)).mono ?_
  rintro e w2 ⟨rfl, rfl⟩
  go_wp2_with fail
  have HS := hide ((HC.out.drewN m).place p)
  have HG := hide (grown_cell (w.drewN m) g 1 (.int .i64 (p : Int)))
  generalize (w.drewN m).setCell ⟨g, 1, none⟩ (.int .i64 (p : Int)) = W at *
  obtain ⟨d0, d1, d2, df⟩ := HS.out.cells
  clear c0 c1 c2 cf HC CL
  go_quiet (fail)
  go_wp2
  go_ret
  exact ⟨a', rfl, HS.out.drewN nq, ⟨HG.out.os, HG.out.tape, HG.out.output, HG.out.size, HG.out.block⟩⟩
theorem only_two {w w1 w2 : World} {g G : Nat} (h : w.grownBy w1 (some g)) (k : w1.grownBy w2 (some G)) : Only [g, G] w w2 :=
  ((Only.of_some h).mono (by simp)).trans ((Only.of_some k).mono (by simp))
set_option maxHeartbeats 1000000 in
theorem put_only (g p G N k : Nat) (v : Int) (xs : List Int) (w : World) (hc : Cur w g (.slice (some ⟨G, 0, none⟩) N N) p .nilIface) (hr : RowB w G xs) (hg : g < G) (hx : xs.length = N) (hN : N ≤ 1048576) (hk : p + k ≤ N) (hp : p < N) (h8 : k ≤ 8) :
    Calls Tryz.prog 70 #[.pointer (some ⟨g, 0, none⟩), .int .i64 v, .int .i64 (k : Int)] w fun e w' => e = .returned (.tuple #[]) ∧ Cur w' g (.slice (some ⟨G, 0, none⟩) N N) (p + k) .nilIface ∧ RowB w' G (splice xs p (putL v k)) ∧ Only [g, G] w w' := by
  have cp := pass_ok g p N N G 0 k w hc (by omega) hk hp (Nat.le_refl _)
  rw [Nat.zero_add] at cp
  have CP := hide cp
  clear cp
  have hgl := hc.lt
  have HR := hide hr
  have HX := hide hx
  clear hc hr hx
  go_enter Tryz.func70, Tryz.ntmps70
  go_wp2_with fail
  refine CP.out.mono ?_
  rintro e w1 ⟨rfl, hc1, hg1⟩
  have HC1 := hide hc1
  have hr1 := HR.out.kept hg1 (by intro e; cases e; omega)
  have CN := hide (putNumber_at G p k (N - p) v xs w1 h8 hr1 (by rw [HX.out]; omega))
  have HB1 := hide hg1
  clear hc1 hg1 hr1
  go_wp2_with fail
  refine CN.out.mono ?_
  rintro e w2 ⟨rfl, hr2, hg2⟩
  have HC2 := hide (HC1.out.kept hg2 (by intro e; cases e; omega))
  have HB2 := hide (only_two HB1.out hg2)
  have HR2 := hide hr2
  clear hr2 hg2
  go_wp2_with fail
  go_end0
  exact ⟨rfl, HC2.out, HR2.out, HB2.out⟩
theorem put_onl (g G N p m k : Nat) (v : Int) (done : List Int) (w : World) (hc : Cur w g (.slice (some ⟨G, 0, none⟩) N N) p .nilIface) (hr : RowB w G (done ++ List.replicate m 0)) (hg : g < G) (hp : done.length = p) (hN : p + m = N) (hb : N ≤ 1048576) (hk : k ≤ m) (hm : 0 < m) (h8 : k ≤ 8) :
    Calls Tryz.prog 70 #[.pointer (some ⟨g, 0, none⟩), .int .i64 v, .int .i64 (k : Int)] w fun e w' => e = .returned (.tuple #[]) ∧ Cur w' g (.slice (some ⟨G, 0, none⟩) N N) (p + k) .nilIface ∧ RowB w' G ((done ++ putL v k) ++ List.replicate (m - k) 0) ∧ Only [g, G] w w' := by
  have h := put_only g p G N k v _ w hc hr hg (by rw [List.length_append, List.length_replicate, hp, hN]) hb (by omega) (by omega) h8
  rw [splice_fill done _ p m hp, putL_len] at h
  exact h
set_option maxHeartbeats 1000000 in
theorem putBytes_only (g p G N n cap : Nat) (a : Option Addr) (xs zs : List Int) (w : World) (hc : Cur w g (.slice (some ⟨G, 0, none⟩) N N) p .nilIface) (hr : RowB w G xs) (hg : g < G) (hx : xs.length = N) (hN : N ≤ 1048576) (hk : p + n ≤ N) (hp : p < N) (hn : zs.length = n) (ha : Arr w a zs) (hag : ∀ j, j < zs.length → ∃ b off, a = some ⟨b, off, none⟩ ∧ b < g) :
    Calls Tryz.prog 38 #[.pointer (some ⟨g, 0, none⟩), .slice a n cap] w fun e w' => e = .returned (.tuple #[]) ∧ Cur w' g (.slice (some ⟨G, 0, none⟩) N N) (p + n) .nilIface ∧ RowB w' G (splice xs p zs) ∧ Only [g, G] w w' := by
  have cp := pass_ok g p N N G 0 n w hc (by omega) hk hp (Nat.le_refl _)
  rw [Nat.zero_add] at cp
  have CP := hide cp
  clear cp
  have hgl := hc.lt
  have HR := hide hr
  have HX := hide hx
  have HN := hide hn
  have HA := hide ha
  have HAG := hide hag
  clear hc hr hx ha hn hag
  go_enter Tryz.func38, Tryz.ntmps38
  go_wp2_with fail
  refine CP.out.mono ?_
  rintro e w1 ⟨rfl, hc1, hg1⟩
  have HC1 := hide hc1
  have HR1 := hide (HR.out.kept hg1 (by intro e; cases e; omega))
  have HB1 := hide (grown_under hg1 (Nat.le_refl g) (by omega))
  have HG1 := hide hg1
  have HA1 : Hid (∀ j v, (bval zs)[j]? = some v → ∃ b off, a = some ⟨b, off, none⟩ ∧ w1.cell? ⟨b, off + j, none⟩ = some v) := hide (by
    intro j v hv
    have hj : j < zs.length := by
      have := (List.getElem?_eq_some_iff.1 hv).1
      simpa [bval] using this
    obtain ⟨b, off, e, hlt, hcell⟩ := HA.out.2 j hj
    refine ⟨b, off, e, ?_⟩
    rw [HB1.out.cell (p := ⟨b, off + j, none⟩) (by obtain ⟨b2, o2, e2, h2⟩ := HAG.out j hj; rw [e] at e2; cases e2; exact h2), hcell, ← bval_get zs j hj, hv])
  clear hc1 hg1
  obtain ⟨W, hrun, hrow, hgW⟩ := copy_into 3 G p n (N - p) cap a xs zs w1 HR1.out HN.out (by rw [HX.out]; omega) HA1.out
  have HRW := hide hrow
  have HGW := hide hgW
  clear hrow hgW
  go_wp2_with fail
  go_end0
  exact ⟨rfl, HC1.out.kept HGW.out (by intro e; cases e; omega), HRW.out, only_two HG1.out HGW.out⟩
set_option maxHeartbeats 1000000 in
theorem putBytes_zero (g p G N cap : Nat) (a : Option Addr) (w : World) (hc : Cur w g (.slice (some ⟨G, 0, none⟩) N N) p .nilIface) (hN : N ≤ 1048576) (hp : p ≤ N) :
    Calls Tryz.prog 38 #[.pointer (some ⟨g, 0, none⟩), .slice a 0 cap] w fun e w' => e = .returned (.tuple #[]) ∧ Cur w' g (.slice (some ⟨G, 0, none⟩) N N) p .nilIface ∧ w.grownBy w' (some g) := by
  have CP := hide (pass_zero g p N N G 0 w hc (by omega) hp (Nat.le_refl _))
  obtain ⟨i, hi, hz0, hz1, hz2⟩ := info_parts Tryz.infoB
  have hs : (Tryz.prog.info? 5).map (·.size) = some 1 := by rw [hi]; simp [hz1]
  have HR := hide (fun w (d : Option Addr) => run_copy_none (P := Tryz.prog) w 22 22 3 5 d a 0 (N - p) 0 cap Tryz.underlying22 hs (by simp))
  clear hi hz0 hz1 hz2 hs hc
  go_enter Tryz.func38, Tryz.ntmps38
  go_wp2_with fail
  refine CP.out.mono ?_
  rintro e w1 ⟨a', rfl, hc1, hg1⟩
  have HC1 := hide hc1
  have HG1 := hide hg1
  clear hc1 hg1
  have hr := HR.out w1 a'
  go_wp2_with fail
  go_end0
  exact ⟨rfl, HC1.out, HG1.out⟩
theorem putBytes_onl (g G N p m n cap : Nat) (a : Option Addr) (done zs : List Int) (w : World) (hc : Cur w g (.slice (some ⟨G, 0, none⟩) N N) p .nilIface) (hr : RowB w G (done ++ List.replicate m 0)) (hg : g < G) (hp : done.length = p) (hN : p + m = N) (hb : N ≤ 1048576) (hk : n ≤ m) (hn : zs.length = n) (ha : Arr w a zs) (hag : ∀ j, j < zs.length → ∃ b off, a = some ⟨b, off, none⟩ ∧ b < g) :
    Calls Tryz.prog 38 #[.pointer (some ⟨g, 0, none⟩), .slice a n cap] w fun e w' => e = .returned (.tuple #[]) ∧ Cur w' g (.slice (some ⟨G, 0, none⟩) N N) (p + n) .nilIface ∧ RowB w' G ((done ++ zs) ++ List.replicate (m - n) 0) ∧ Only [g, G] w w' := by
  cases n with
  | zero =>
    have e : zs = [] := List.length_eq_zero_iff.1 hn
    subst e
    refine (putBytes_zero g p G N cap a w hc hb (by omega)).mono ?_
    rintro e w' ⟨rfl, hc', hg'⟩
    exact ⟨rfl, hc', by simpa using hr.kept hg' (by intro e; cases e; omega), (Only.of_some hg').mono (by simp)⟩
  | succ k =>
    have h := putBytes_only g p G N (k + 1) cap a _ zs w hc hr hg (by rw [List.length_append, List.length_replicate, hp, hN]) hb (by omega) (by omega) hn ha hag
    rw [splice_fill done _ p m hp, hn] at h
    exact h

/-- Bytes summed one by one: those at even places stand high. -/
def qsum (zs : List Int) : Nat → Int
  | 0 => 0
  | i + 1 => qsum zs i + zs.getD i 0 * (if i % 2 = 0 then 256 else 1)
theorem qsum_even (zs : List Int) (i : Nat) (h : i % 2 = 0) : qsum zs (i + 1) = qsum zs i + zs.getD i 0 * 256 := by rw [qsum, if_pos h]
theorem qsum_odd (zs : List Int) (i : Nat) (h : ¬ i % 2 = 0) : qsum zs (i + 1) = qsum zs i + zs.getD i 0 := by rw [qsum, if_neg h, Int.mul_one]
theorem qsum_pair (zs : List Int) : ∀ k : Nat, qsum zs (2 * k) = psum zs k
  | 0 => rfl
  | k + 1 => by
    rw [show 2 * (k + 1) = 2 * k + 1 + 1 by omega, qsum_odd zs (2 * k + 1) (by omega), qsum_even zs (2 * k) (by omega), qsum_pair zs k, psum]
    omega
theorem qsum_all {zs : List Int} {n : Nat} (hn : zs.length = n) : qsum zs n = psum zs ((n + 1) / 2) := by
  by_cases h : n % 2 = 0
  · rw [show (n + 1) / 2 = n / 2 by omega, ← qsum_pair, show 2 * (n / 2) = n by omega]
  · rw [← qsum_pair, show 2 * ((n + 1) / 2) = n + 1 by omega, qsum_odd zs n h, List.getD_eq_getElem?_getD, List.getElem?_eq_none (by omega)]
    simp
theorem qsum_bd {zs : List Int} (h : ∀ z ∈ zs, 0 ≤ z ∧ z ≤ 255) : ∀ i : Nat, 0 ≤ qsum zs i ∧ qsum zs i ≤ 65535 * (i : Int)
  | 0 => by simp [qsum]
  | i + 1 => by
    have h1 := qsum_bd h i
    have h2 := getD_bd h i
    by_cases e : i % 2 = 0
    · rw [qsum_even zs i e]; omega
    · rw [qsum_odd zs i e]; omega
def shf (i : Nat) : Int := if i % 2 = 0 then 8 else 0
/-- How many bytes stand in the first rows. -/
def ofs (ls : List (List Int)) (i : Nat) : Nat := (ls.take i).flatten.length
theorem ofs_succ (ls : List (List Int)) (i : Nat) (h : i < ls.length) : ofs ls (i + 1) = ofs ls i + (ls.getD i []).length := by
  unfold ofs
  rw [List.take_add_one, List.flatten_append, List.length_append, List.getD_eq_getElem?_getD, List.getElem?_eq_getElem h]
  simp
theorem ofs_all (ls : List (List Int)) : ofs ls ls.length = ls.flatten.length := by unfold ofs; rw [List.take_length]
theorem ofs_get (ls : List (List Int)) (i j : Nat) (h : i < ls.length) (hj : j < (ls.getD i []).length) : ls.flatten.getD (ofs ls i + j) 0 = (ls.getD i []).getD j 0 := by
  have e : ls = ls.take i ++ (ls.getD i [] :: ls.drop (i + 1)) := by
    rw [List.getD_eq_getElem?_getD, List.getElem?_eq_getElem h]
    simp
  have e2 : ls.flatten = (ls.take i).flatten ++ (ls.getD i [] ++ (ls.drop (i + 1)).flatten) := by
    have := congrArg List.flatten e
    rw [List.flatten_append, List.flatten_cons] at this
    exact this
  rw [e2]
  unfold ofs
  rw [List.getD_eq_getElem?_getD, List.getElem?_append_right (by omega), Nat.add_sub_cancel_left, List.getElem?_append_left hj, ← List.getD_eq_getElem?_getD]
theorem ofs_le (ls : List (List Int)) (i : Nat) (h : i < ls.length) : ofs ls i + (ls.getD i []).length ≤ ls.flatten.length := by
  rw [← ofs_succ ls i h]
  unfold ofs
  have e : (ls.take (i + 1)).flatten ++ (ls.drop (i + 1)).flatten = ls.flatten := by rw [← List.flatten_append, List.take_append_drop]
  rw [← e, List.length_append]
  omega
/-- Rows of bytes whose slices lie in the cells of a row. -/
def Parts (w : World) (b off : Nat) (ls : List (List Int)) : Prop := ∀ i, i < ls.length → ∃ (a : Option Addr) (n cap : Nat), w.cell? ⟨b, off + i, none⟩ = some (.slice a n cap) ∧ (ls.getD i []).length = n ∧ Arr w a (ls.getD i [])
set_option maxHeartbeats 2000000 in
theorem checksumOf_walk (b off m cap : Nat) (ls : List (List Int)) (w : World) (hm : ls.length = m) (hp : Parts w b off ls) (hz : ∀ z ∈ ls.flatten, 0 ≤ z ∧ z ≤ 255) (hl : ls.flatten.length ≤ 2097152) (hM : m ≤ 1048576) :
    Calls Tryz.prog 77 #[.slice (some ⟨b, off, none⟩) m cap] w fun e w' => e = .returned (.int .i64 (65535 - fold (psum ls.flatten ((ls.flatten.length + 1) / 2)))) ∧ w' = w := by
  have HM := hide hm
  have HP := hide hp
  have HZ := hide hz
  have HL := hide hl
  clear hm hp hz hl
  go_enter Tryz.func77, Tryz.ntmps77
  go_wp2_with fail
  go_loop [3, 4, 11] (fun s h t => ∃ i : Nat, i ≤ m ∧ t = .int .i64 i ∧ s = .int .u64 (qsum ls.flatten (ofs ls i)) ∧ h = .int .i64 (shf (ofs ls i))) (fun _ _ t => m - (intOf t).toNat)
  case atStart => exact ⟨0, by omega, rfl, rfl, rfl⟩
  case round =>
    obtain ⟨i, hi, rfl, rfl, rfl⟩ := hrel
    by_cases hlt : i < m
    · have HI : Hid (i < ls.length) := hide (by rw [HM.out]; exact hlt)
      obtain ⟨a, n, cp, hc, hn, ha⟩ := HP.out i HI.out
      have HN := hide hn
      have HA := hide ha
      have HO := hide (ofs_le ls i HI.out)
      have HS := hide (ofs_succ ls i HI.out)
      rw [hn] at HO HS
      clear hn ha
      generalize ho : ofs ls i = o at *
      have HOO := hide ho
      clear ho
      have hnb : n ≤ 2097152 := by have h1 := HO.out; have h2 := HL.out; omega
      go_wp2_with fail
      go_loop [3, 4, 17] (fun s h t => ∃ j : Nat, j ≤ n ∧ t = .int .i64 j ∧ s = .int .u64 (qsum ls.flatten (o + j)) ∧ h = .int .i64 (shf (o + j))) (fun _ _ t => n - (intOf t).toNat)
      case atStart => exact ⟨0, by omega, rfl, rfl, rfl⟩
      case round =>
        obtain ⟨j, hj, rfl, rfl, rfl⟩ := hrel
        by_cases hlj : j < n
        · obtain ⟨b', off', rfl, hbs, hcj⟩ := HA.out.2 j (by rw [HN.out]; exact hlj)
          have hzj := getD_bd HA.out.1 j
          have HG : Hid (ls.flatten.getD (o + j) 0 = (ls.getD i []).getD j 0) := hide (by rw [← HOO.out]; exact ofs_get ls i j HI.out (by rw [HN.out]; exact hlj))
          have hq := qsum_bd HZ.out (o + j)
          have hoj : o + j ≤ 2097152 := by have h1 := HO.out; have h2 := HL.out; omega
          have hq2 : qsum ls.flatten (o + j) ≤ 137438953472 := by omega
          have hq1 := hq.1
          clear hq
          by_cases he : (o + j) % 2 = 0
          · have HQ := hide (qsum_even ls.flatten (o + j) he)
            rw [HG.out] at HQ
            have s1 : shf (o + j) = 8 := by unfold shf; rw [if_pos he]
            have S2 : Hid (shf (o + (j + 1)) = 0) := hide (by unfold shf; rw [if_neg (by omega)])
            rw [s1]
            clear he s1 HG
            generalize (ls.getD i []).getD j 0 = x at *
            generalize qsum ls.flatten (o + j) = s at *
            go_wp2
            go_round
            case rel => exact ⟨j + 1, by omega, by go_num, by rw [← Nat.add_assoc, HQ.out], by rw [S2.out]⟩
            case measure => simp [intOf]; omega
          · have HQ := hide (qsum_odd ls.flatten (o + j) he)
            rw [HG.out] at HQ
            have s1 : shf (o + j) = 0 := by unfold shf; rw [if_neg he]
            have S2 : Hid (shf (o + (j + 1)) = 8) := hide (by unfold shf; rw [if_pos (by omega)])
            rw [s1]
            clear he s1 HG
            generalize (ls.getD i []).getD j 0 = x at *
            generalize qsum ls.flatten (o + j) = s at *
            go_wp2
            go_round
            case rel => exact ⟨j + 1, by omega, by go_num, by rw [← Nat.add_assoc, HQ.out], by rw [S2.out]⟩
            case measure => simp [intOf]; omega
        · have hjn : j = n := by omega
          subst hjn
          go_wp2_with fail
          go_round
          case rel => exact ⟨i + 1, by omega, by go_num, by rw [HS.out], by rw [HS.out]⟩
          case measure => simp [intOf]; omega
    · have him : i = m := by omega
      have HQ : Hid (qsum ls.flatten (ofs ls i) = psum ls.flatten ((ls.flatten.length + 1) / 2)) := hide (by rw [him, ← HM.out, ofs_all]; exact qsum_all rfl)
      have hq := qsum_bd HZ.out (ofs ls i)
      have hq2 : qsum ls.flatten (ofs ls i) ≤ 137438953472 := by
        have h1 : ofs ls i = ls.flatten.length := by rw [him, ← HM.out, ofs_all]
        have h2 := HL.out
        omega
      have hq1 := hq.1
      clear hq him
      generalize qsum ls.flatten (ofs ls i) = s at *
      go_wp2_with (go_at_call 86; refine (fold_walk _ (by omega) (by omega) _).mono ?_; rintro e w' ⟨rfl, rfl⟩)
      go_ret
      exact ⟨ret_int (by rw [HQ.out]), rfl⟩

set_option maxHeartbeats 2000000 in
theorem checksum_walk (a : Option Addr) (n cap : Nat) (zs : List Int) (w : World) (hn : zs.length = n) (ha : Arr w a zs) (hm : n ≤ 1048576) :
    Calls Tryz.prog 43 #[.slice a n cap] w fun e w' => e = .returned (.int .i64 (65535 - fold (psum zs ((n + 1) / 2)))) ∧ Below w.heap.size w w' ∧ w.heap.size ≤ w'.heap.size := by
  have HB := hide ((Below.refl w.heap.size w).alloc (Nat.le_refl _) (.cells #[.slice a n cap] 22))
  have e1 : [zs].flatten = zs := by simp
  have HC := hide (checksumOf_walk w.heap.size 0 1 1 [zs] (w.alloc (.cells #[.slice a n cap] 22)) rfl (by
    intro i hi
    have h0 : i = 0 := by simpa using hi
    subst h0
    refine ⟨a, n, cap, ?_, hn, ha.below HB.out (Nat.le_refl _)⟩
    exact (cell_of_row _ w.heap.size 0 _ _ (0, 0) (heap_alloc_new w _)).trans rfl) (by rw [e1]; exact ha.1) (by rw [e1, hn]; omega) (by omega))
  rw [e1, hn] at HC
  clear e1 hn ha
  go_enter Tryz.func43, Tryz.ntmps43
  go_wp2_with (go_at_call 77; refine HC.out.mono ?_; rintro e w' ⟨rfl, rfl⟩)
  go_ret
  exact ⟨rfl, HB.out, HB.out.size⟩

theorem put_on1 (g G N p m : Nat) (v : Int) (done : List Int) (w : World) (hc : Cur w g (.slice (some ⟨G, 0, none⟩) N N) p .nilIface) (hr : RowB w G (done ++ List.replicate m 0)) (hg : g < G) (hp : done.length = p) (hN : p + m = N) (hb : N ≤ 1048576) (hk : 1 ≤ m) :
    Calls Tryz.prog 70 #[.pointer (some ⟨g, 0, none⟩), .int .i64 v, .int .i64 1] w fun e w' => e = .returned (.tuple #[]) ∧ Cur w' g (.slice (some ⟨G, 0, none⟩) N N) (p + 1) .nilIface ∧ RowB w' G ((done ++ putL v 1) ++ List.replicate (m - 1) 0) ∧ Only [g, G] w w' :=
  put_onl g G N p m 1 v done w hc hr hg hp hN hb hk (by omega) (by omega)
theorem put_on2 (g G N p m : Nat) (v : Int) (done : List Int) (w : World) (hc : Cur w g (.slice (some ⟨G, 0, none⟩) N N) p .nilIface) (hr : RowB w G (done ++ List.replicate m 0)) (hg : g < G) (hp : done.length = p) (hN : p + m = N) (hb : N ≤ 1048576) (hk : 2 ≤ m) :
    Calls Tryz.prog 70 #[.pointer (some ⟨g, 0, none⟩), .int .i64 v, .int .i64 2] w fun e w' => e = .returned (.tuple #[]) ∧ Cur w' g (.slice (some ⟨G, 0, none⟩) N N) (p + 2) .nilIface ∧ RowB w' G ((done ++ putL v 2) ++ List.replicate (m - 2) 0) ∧ Only [g, G] w w' :=
  put_onl g G N p m 2 v done w hc hr hg hp hN hb hk (by omega) (by omega)
theorem put_on4 (g G N p m : Nat) (v : Int) (done : List Int) (w : World) (hc : Cur w g (.slice (some ⟨G, 0, none⟩) N N) p .nilIface) (hr : RowB w G (done ++ List.replicate m 0)) (hg : g < G) (hp : done.length = p) (hN : p + m = N) (hb : N ≤ 1048576) (hk : 4 ≤ m) :
    Calls Tryz.prog 70 #[.pointer (some ⟨g, 0, none⟩), .int .i64 v, .int .i64 4] w fun e w' => e = .returned (.tuple #[]) ∧ Cur w' g (.slice (some ⟨G, 0, none⟩) N N) (p + 4) .nilIface ∧ RowB w' G ((done ++ putL v 4) ++ List.replicate (m - 4) 0) ∧ Only [g, G] w w' :=
  put_onl g G N p m 4 v done w hc hr hg hp hN hb hk (by omega) (by omega)
theorem pass_on2 (g G N p : Nat) (w : World) (hc : Cur w g (.slice (some ⟨G, 0, none⟩) N N) p .nilIface) (hb : N ≤ 1048576) (hk : p + 2 ≤ N) :
    Calls Tryz.prog 45 #[.pointer (some ⟨g, 0, none⟩), .int .i64 2] w fun e w' => e = .returned (.slice (some ⟨G, p, none⟩) 2 (N - p)) ∧ Cur w' g (.slice (some ⟨G, 0, none⟩) N N) (p + 2) .nilIface ∧ w.grownBy w' (some g) := by
  have h := pass_ok g p N N G 0 2 w hc (by omega) hk (by omega) (Nat.le_refl _)
  rw [Nat.zero_add] at h
  exact h
theorem rep_two (done : List Int) (m : Nat) (h : 2 ≤ m) : done ++ List.replicate m 0 = (done ++ [0, 0]) ++ List.replicate (m - 2) 0 := by
  obtain ⟨k, rfl⟩ : ∃ k, m = k + 2 := ⟨m - 2, by omega⟩
  rw [Nat.add_sub_cancel, List.append_assoc]
  rfl
theorem row_prefix {w : World} {G : Nat} {D : List Int} {m : Nat} (h : RowB w G (D ++ List.replicate m 0)) (hb : ∀ z ∈ D, 0 ≤ z ∧ z ≤ 255) : Arr w (some ⟨G, 0, none⟩) D := by
  have h1 := (h.arr (fun z hz => by
    rcases List.mem_append.1 hz with hz | hz
    · exact hb z hz
    · have := List.eq_of_mem_replicate hz; omega)).take D.length
  rw [List.take_left] at h1
  exact h1
theorem arr_only {w w' : World} {a : Option Addr} {zs : List Int} {S : List Nat} (h : Arr w a zs) (k : Only S w w') (hn : ∀ j, j < zs.length → ∃ b off, a = some ⟨b, off, none⟩ ∧ b ∉ S) : Arr w' a zs :=
  ⟨h.1, fun j hj => by
    obtain ⟨b, off, e, hlt, hcell⟩ := h.2 j hj
    obtain ⟨b', off', e', hb⟩ := hn j hj
    rw [e] at e'
    cases e'
    exact ⟨b, off, e, Nat.lt_of_lt_of_le hlt k.size, by rw [World.cell?_of_block (a := ⟨b, off + j, none⟩) (k.block b hlt hb)]; exact hcell⟩⟩

/-- A head lies in block H. -/
def HdC (w : World) (H : Nat) (f x0 wh x1 fl x5 x6 x7 x8 : Int) (v : Value) : Prop := w.heap[H]? = some (.cells #[.int .i64 f, .int .i64 x0, .int .i64 wh, .int .i64 x1, .int .i64 fl, .int .i64 x5, .int .i64 x6, .int .i64 x7, .int .i64 x8, v] 75)
theorem HdC.lt {w : World} {H : Nat} {f x0 wh x1 fl x5 x6 x7 x8 : Int} {v : Value} (h : HdC w H f x0 wh x1 fl x5 x6 x7 x8 v) : H < w.heap.size := (Array.getElem?_eq_some_iff.1 h).1
theorem HdC.only {w w' : World} {H : Nat} {S : List Nat} {f x0 wh x1 fl x5 x6 x7 x8 : Int} {v : Value} (h : HdC w H f x0 wh x1 fl x5 x6 x7 x8 v) (k : Only S w w') (hn : H ∉ S) : HdC w' H f x0 wh x1 fl x5 x6 x7 x8 v := (k.block H h.lt hn).trans h
theorem HdC.cells {w : World} {H : Nat} {f x0 wh x1 fl x5 x6 x7 x8 : Int} {v : Value} (h : HdC w H f x0 wh x1 fl x5 x6 x7 x8 v) : w.cell? ⟨H, 0, none⟩ = some (.int .i64 f) ∧ w.cell? ⟨H, 1, none⟩ = some (.int .i64 x0) ∧ w.cell? ⟨H, 2, none⟩ = some (.int .i64 wh) ∧ w.cell? ⟨H, 3, none⟩ = some (.int .i64 x1) ∧ w.cell? ⟨H, 4, none⟩ = some (.int .i64 fl) ∧ w.cell? ⟨H, 5, none⟩ = some (.int .i64 x5) ∧ w.cell? ⟨H, 6, none⟩ = some (.int .i64 x6) ∧ w.cell? ⟨H, 7, none⟩ = some (.int .i64 x7) ∧ w.cell? ⟨H, 8, none⟩ = some (.int .i64 x8) ∧ w.cell? ⟨H, 9, none⟩ = some v :=
  ⟨cell_of_row w H 0 _ _ _ h, cell_of_row w H 1 _ _ _ h, cell_of_row w H 2 _ _ _ h, cell_of_row w H 3 _ _ _ h, cell_of_row w H 4 _ _ _ h, cell_of_row w H 5 _ _ _ h, cell_of_row w H 6 _ _ _ h, cell_of_row w H 7 _ _ _ h, cell_of_row w H 8 _ _ _ h, cell_of_row w H 9 _ _ _ h⟩
/-- The bytes of a head, its sum 0. -/
def hdB (f x0 wh x1 fl x5 x6 x7 x8 : Int) (z0 : List Int) : List Int := putL f 1 ++ putL x0 1 ++ putL wh 2 ++ putL x1 2 ++ putL fl 2 ++ putL x5 1 ++ putL x6 1 ++ [0, 0] ++ putL x7 4 ++ putL x8 4 ++ z0
theorem hdB_len (f x0 wh x1 fl x5 x6 x7 x8 : Int) (z0 : List Int) : (hdB f x0 wh x1 fl x5 x6 x7 x8 z0).length = 20 + z0.length := by unfold hdB; simp [putL_len]; omega
theorem hdB_bd (f x0 wh x1 fl x5 x6 x7 x8 : Int) (z0 : List Int) (h : ∀ z ∈ z0, 0 ≤ z ∧ z ≤ 255) : ∀ z ∈ hdB f x0 wh x1 fl x5 x6 x7 x8 z0, 0 ≤ z ∧ z ≤ 255 := by
  intro z hz
  unfold hdB at hz
  simp only [List.mem_append] at hz
  rcases hz with (((((((((hz | hz) | hz) | hz) | hz) | hz) | hz) | hz) | hz) | hz) | hz
  any_goals exact putL_bd _ _ z hz
  · simp only [List.mem_cons, List.not_mem_nil, or_false] at hz; omega
  · exact h z hz
set_option maxHeartbeats 8000000 in
theorem putHead_ok (g G H N n0 c0 : Nat) (a0 : Option Addr) (f x0 wh x1 fl x5 x6 x7 x8 : Int) (z0 : List Int) (w : World) (hc : Cur w g (.slice (some ⟨G, 0, none⟩) N N) 0 .nilIface) (hr : RowB w G (List.replicate N 0)) (hh : HdC w H f x0 wh x1 fl x5 x6 x7 x8 (.slice a0 n0 c0)) (hg : g < G) (hHg : H ≠ g) (hHG : H ≠ G) (hN : 20 + n0 ≤ N) (hb : N ≤ 1048576) (hz : z0.length = n0) (ha : Arr w a0 z0) (hag : ∀ j, j < z0.length → ∃ b off, a0 = some ⟨b, off, none⟩ ∧ b < g) :
    Calls Tryz.prog 37 #[.pointer (some ⟨H, 0, none⟩), .pointer (some ⟨g, 0, none⟩)] w fun e w' => e = .returned (.tuple #[]) ∧ Cur w' g (.slice (some ⟨G, 0, none⟩) N N) (20 + n0) .nilIface ∧ RowB w' G (splice (hdB f x0 wh x1 fl x5 x6 x7 x8 z0 ++ List.replicate (N - 20 - n0) 0) 10 (putL (csum (hdB f x0 wh x1 fl x5 x6 x7 x8 z0)) 2)) ∧ Only [g, G] w w' := by
  have HH0 := hide hh
  have HC0 := hide hc
  have HR0 : Hid (RowB w G ([] ++ List.replicate N 0)) := hide hr
  have HO0 := hide (Only.refl [g, G] w)
  have HNE : Hid (H ∉ [g, G]) := hide (by simp [hHg, hHG])
  have HZ := hide hz
  have HA := hide ha
  have HAG := hide hag
  clear hh hc hr hHg hHG hz ha hag
  go_enter Tryz.func37, Tryz.ntmps37
  have C := hide (put_on1 g G N 0 (N) f ([]) w HC0.out HR0.out hg rfl (by omega) hb (by omega))
  obtain ⟨h0, h1, h2, h3, h4, h5, h6, h7, h8, h9⟩ := HH0.out.cells
  go_wp2_with fail
  refine C.out.mono ?_
  rintro e w1 ⟨rfl, hc, hr, ho⟩
  have HC1 : Hid (Cur w1 g (.slice (some ⟨G, 0, none⟩) N N) 1 .nilIface) := hide hc
  have HR1 := hide hr
  have HH1 := hide (HH0.out.only ho HNE.out)
  have HO1 := hide (HO0.out.trans ho)
  clear C hc hr ho h0 h1 h2 h3 h4 h5 h6 h7 h8 h9 HC0 HR0 HH0 HO0
  have C := hide (put_on1 g G N 1 (N - 1) x0 ([] ++ putL f 1) w1 HC1.out HR1.out hg (by simp [putL_len]) (by omega) hb (by omega))
  obtain ⟨h0, h1, h2, h3, h4, h5, h6, h7, h8, h9⟩ := HH1.out.cells
  go_wp2_with fail
  refine C.out.mono ?_
  rintro e w2 ⟨rfl, hc, hr, ho⟩
  have HC2 : Hid (Cur w2 g (.slice (some ⟨G, 0, none⟩) N N) 2 .nilIface) := hide hc
  have HR2 := hide hr
  have HH2 := hide (HH1.out.only ho HNE.out)
  have HO2 := hide (HO1.out.trans ho)
  clear C hc hr ho h0 h1 h2 h3 h4 h5 h6 h7 h8 h9 HC1 HR1 HH1 HO1
  have C := hide (put_on2 g G N 2 (N - 1 - 1) wh ([] ++ putL f 1 ++ putL x0 1) w2 HC2.out HR2.out hg (by simp [putL_len]) (by omega) hb (by omega))
  obtain ⟨h0, h1, h2, h3, h4, h5, h6, h7, h8, h9⟩ := HH2.out.cells
  go_wp2_with fail
  refine C.out.mono ?_
  rintro e w3 ⟨rfl, hc, hr, ho⟩
  have HC3 : Hid (Cur w3 g (.slice (some ⟨G, 0, none⟩) N N) 4 .nilIface) := hide hc
  have HR3 := hide hr
  have HH3 := hide (HH2.out.only ho HNE.out)
  have HO3 := hide (HO2.out.trans ho)
  clear C hc hr ho h0 h1 h2 h3 h4 h5 h6 h7 h8 h9 HC2 HR2 HH2 HO2
  have C := hide (put_on2 g G N 4 (N - 1 - 1 - 2) x1 ([] ++ putL f 1 ++ putL x0 1 ++ putL wh 2) w3 HC3.out HR3.out hg (by simp [putL_len]) (by omega) hb (by omega))
  obtain ⟨h0, h1, h2, h3, h4, h5, h6, h7, h8, h9⟩ := HH3.out.cells
  go_wp2_with fail
  refine C.out.mono ?_
  rintro e w4 ⟨rfl, hc, hr, ho⟩
  have HC4 : Hid (Cur w4 g (.slice (some ⟨G, 0, none⟩) N N) 6 .nilIface) := hide hc
  have HR4 := hide hr
  have HH4 := hide (HH3.out.only ho HNE.out)
  have HO4 := hide (HO3.out.trans ho)
  clear C hc hr ho h0 h1 h2 h3 h4 h5 h6 h7 h8 h9 HC3 HR3 HH3 HO3
  have C := hide (put_on2 g G N 6 (N - 1 - 1 - 2 - 2) fl ([] ++ putL f 1 ++ putL x0 1 ++ putL wh 2 ++ putL x1 2) w4 HC4.out HR4.out hg (by simp [putL_len]) (by omega) hb (by omega))
  obtain ⟨h0, h1, h2, h3, h4, h5, h6, h7, h8, h9⟩ := HH4.out.cells
  go_wp2_with fail
  refine C.out.mono ?_
  rintro e w5 ⟨rfl, hc, hr, ho⟩
  have HC5 : Hid (Cur w5 g (.slice (some ⟨G, 0, none⟩) N N) 8 .nilIface) := hide hc
  have HR5 := hide hr
  have HH5 := hide (HH4.out.only ho HNE.out)
  have HO5 := hide (HO4.out.trans ho)
  clear C hc hr ho h0 h1 h2 h3 h4 h5 h6 h7 h8 h9 HC4 HR4 HH4 HO4
  have C := hide (put_on1 g G N 8 (N - 1 - 1 - 2 - 2 - 2) x5 ([] ++ putL f 1 ++ putL x0 1 ++ putL wh 2 ++ putL x1 2 ++ putL fl 2) w5 HC5.out HR5.out hg (by simp [putL_len]) (by omega) hb (by omega))
  obtain ⟨h0, h1, h2, h3, h4, h5, h6, h7, h8, h9⟩ := HH5.out.cells
  go_wp2_with fail
  refine C.out.mono ?_
  rintro e w6 ⟨rfl, hc, hr, ho⟩
  have HC6 : Hid (Cur w6 g (.slice (some ⟨G, 0, none⟩) N N) 9 .nilIface) := hide hc
  have HR6 := hide hr
  have HH6 := hide (HH5.out.only ho HNE.out)
  have HO6 := hide (HO5.out.trans ho)
  clear C hc hr ho h0 h1 h2 h3 h4 h5 h6 h7 h8 h9 HC5 HR5 HH5 HO5
  have C := hide (put_on1 g G N 9 (N - 1 - 1 - 2 - 2 - 2 - 1) x6 ([] ++ putL f 1 ++ putL x0 1 ++ putL wh 2 ++ putL x1 2 ++ putL fl 2 ++ putL x5 1) w6 HC6.out HR6.out hg (by simp [putL_len]) (by omega) hb (by omega))
  obtain ⟨h0, h1, h2, h3, h4, h5, h6, h7, h8, h9⟩ := HH6.out.cells
  go_wp2_with fail
  refine C.out.mono ?_
  rintro e w7 ⟨rfl, hc, hr, ho⟩
  have HC7 : Hid (Cur w7 g (.slice (some ⟨G, 0, none⟩) N N) 10 .nilIface) := hide hc
  have HR7 := hide hr
  have HH7 := hide (HH6.out.only ho HNE.out)
  have HO7 := hide (HO6.out.trans ho)
  clear C hc hr ho h0 h1 h2 h3 h4 h5 h6 h7 h8 h9 HC6 HR6 HH6 HO6
  have C := hide (pass_on2 g G N 10 w7 HC7.out hb (by omega))
  go_wp2_with fail
  refine C.out.mono ?_
  rintro e w8 ⟨rfl, hc, ho⟩
  have HC8 : Hid (Cur w8 g (.slice (some ⟨G, 0, none⟩) N N) 12 .nilIface) := hide hc
  have hr := HR7.out.kept ho (by intro e; cases e; omega)
  rw [rep_two _ _ (by omega)] at hr
  have HR8 := hide hr
  have ho2 : Only [g, G] w7 w8 := (Only.of_some ho).mono (by simp)
  have HH8 := hide (HH7.out.only ho2 HNE.out)
  have HO8 := hide (HO7.out.trans ho2)
  clear C hc hr ho ho2 HC7 HR7 HH7 HO7
  have C := hide (put_on4 g G N 12 (N - 1 - 1 - 2 - 2 - 2 - 1 - 1 - 2) x7 ([] ++ putL f 1 ++ putL x0 1 ++ putL wh 2 ++ putL x1 2 ++ putL fl 2 ++ putL x5 1 ++ putL x6 1 ++ [0, 0]) w8 HC8.out HR8.out hg (by simp [putL_len]) (by omega) hb (by omega))
  obtain ⟨h0, h1, h2, h3, h4, h5, h6, h7, h8, h9⟩ := HH8.out.cells
  go_wp2_with fail
  refine C.out.mono ?_
  rintro e w9 ⟨rfl, hc, hr, ho⟩
  have HC9 : Hid (Cur w9 g (.slice (some ⟨G, 0, none⟩) N N) 16 .nilIface) := hide hc
  have HR9 := hide hr
  have HH9 := hide (HH8.out.only ho HNE.out)
  have HO9 := hide (HO8.out.trans ho)
  clear C hc hr ho h0 h1 h2 h3 h4 h5 h6 h7 h8 h9 HC8 HR8 HH8 HO8
  have C := hide (put_on4 g G N 16 (N - 1 - 1 - 2 - 2 - 2 - 1 - 1 - 2 - 4) x8 ([] ++ putL f 1 ++ putL x0 1 ++ putL wh 2 ++ putL x1 2 ++ putL fl 2 ++ putL x5 1 ++ putL x6 1 ++ [0, 0] ++ putL x7 4) w9 HC9.out HR9.out hg (by simp [putL_len]) (by omega) hb (by omega))
  obtain ⟨h0, h1, h2, h3, h4, h5, h6, h7, h8, h9⟩ := HH9.out.cells
  go_wp2_with fail
  refine C.out.mono ?_
  rintro e w10 ⟨rfl, hc, hr, ho⟩
  have HC10 : Hid (Cur w10 g (.slice (some ⟨G, 0, none⟩) N N) 20 .nilIface) := hide hc
  have HR10 := hide hr
  have HH10 := hide (HH9.out.only ho HNE.out)
  have HO10 := hide (HO9.out.trans ho)
  clear C hc hr ho h0 h1 h2 h3 h4 h5 h6 h7 h8 h9 HC9 HR9 HH9 HO9
  have HAN : Hid (∀ j, j < z0.length → ∃ b off, a0 = some ⟨b, off, none⟩ ∧ b ∉ [g, G]) := hide (fun j hj => by obtain ⟨b, off, e, hlt⟩ := HAG.out j hj; exact ⟨b, off, e, by simp; omega⟩)
  have C := hide (putBytes_onl g G N 20 (N - 1 - 1 - 2 - 2 - 2 - 1 - 1 - 2 - 4 - 4) n0 c0 a0 ([] ++ putL f 1 ++ putL x0 1 ++ putL wh 2 ++ putL x1 2 ++ putL fl 2 ++ putL x5 1 ++ putL x6 1 ++ [0, 0] ++ putL x7 4 ++ putL x8 4) z0 w10 HC10.out HR10.out hg (by simp [putL_len]) (by omega) hb (by omega) HZ.out (arr_only HA.out HO10.out HAN.out) HAG.out)
  obtain ⟨h0, h1, h2, h3, h4, h5, h6, h7, h8, h9⟩ := HH10.out.cells
  go_wp2_with fail
  refine C.out.mono ?_
  rintro e w11 ⟨rfl, hc, hr, ho⟩
  have HC := hide hc
  have HR : Hid (RowB w11 G (hdB f x0 wh x1 fl x5 x6 x7 x8 z0 ++ List.replicate (N - 20 - n0) 0)) := hide (by
    have e : N - 1 - 1 - 2 - 2 - 2 - 1 - 1 - 2 - 4 - 4 - n0 = N - 20 - n0 := by omega
    rw [e] at hr
    exact hr)
  have HO := hide (HO10.out.trans ho)
  clear C hc hr ho h0 h1 h2 h3 h4 h5 h6 h7 h8 h9 HC10 HR10 HH10 HO10
  have HBD := hide (hdB_bd f x0 wh x1 fl x5 x6 x7 x8 z0 HA.out.1)
  have HL : Hid ((hdB f x0 wh x1 fl x5 x6 x7 x8 z0).length = 20 + n0) := hide (by rw [hdB_len, HZ.out])
  generalize hD : hdB f x0 wh x1 fl x5 x6 x7 x8 z0 = D at *
  have HD := hide hD
  clear hD
  have CP := hide (passed_walk g (20 + n0) N N G 0 .nilIface w11 HC.out hN (by omega))
  go_wp2_with fail
  refine CP.out.mono ?_
  rintro e wa ⟨rfl, m, rfl⟩
  have hk := checksum_walk (some ⟨G, 0, none⟩) (20 + n0) N D (w11.drewN m) HL.out (row_prefix HR.out HBD.out) (by omega)
  have CK : Hid (Calls Tryz.prog 43 #[.slice (some ⟨G, 0, none⟩) (20 + n0) N] (w11.drewN m) fun e w' => e = .returned (.int .i64 (csum D)) ∧ Below (w11.drewN m).heap.size (w11.drewN m) w') := hide (hk.mono (by rintro e w' ⟨rfl, hb, _⟩; refine ⟨?_, hb⟩; unfold csum; rw [HL.out]))
  clear hk CP
  go_wp2_with fail
  refine CK.out.mono ?_
  rintro e wb ⟨rfl, hbk⟩
  have hb2 : Below w11.heap.size w11 wb := ⟨hbk.os, hbk.tape, hbk.output, hbk.size, hbk.block⟩
  have HC2 := hide (HC.out.below hb2 HC.out.lt)
  have HR2 := hide (HR.out.below hb2 HR.out.lt)
  have HO2 := hide (HO.out.trans (Only.of_below hb2))
  clear CK hbk hb2 HC HR HO
  have CN := hide (putNumber_at G 10 2 (N - 10) (csum D) _ wb (by omega) HR2.out (by rw [List.length_append, HL.out]; omega))
  go_wp2_with fail
  refine CN.out.mono ?_
  rintro e wc ⟨rfl, hr, hgc⟩
  have HC3 := hide (HC2.out.kept hgc (by intro e; cases e; omega))
  have HR3 := hide hr
  have HO3 := hide (HO2.out.trans ((Only.of_some hgc).mono (by simp)))
  clear CN hr hgc HC2 HR2 HO2
  go_wp2_with fail
  go_end0
  exact ⟨rfl, HC3.out, by rw [HD.out]; exact HR3.out, HO3.out⟩
set_option maxHeartbeats 8000000 in
theorem putHead_err (g H n0 c0 : Nat) (a0 : Option Addr) (c f x0 wh x1 fl x5 x6 x7 x8 : Int) (w : World) (hc : Cur w g (.slice none 0 0) 0 (wErr c)) (hh : HdC w H f x0 wh x1 fl x5 x6 x7 x8 (.slice a0 n0 c0)) (hm : n0 ≤ 1048576) :
    Calls Tryz.prog 37 #[.pointer (some ⟨H, 0, none⟩), .pointer (some ⟨g, 0, none⟩)] w fun e w' => e = .returned (.tuple #[]) ∧ Below w.heap.size w w' := by
  have HH := hide hh
  have HC := hide hc
  clear hh hc
  go_enter Tryz.func37, Tryz.ntmps37
  obtain ⟨h0, h1, h2, h3, h4, h5, h6, h7, h8, h9⟩ := (show HdC (w) _ _ _ _ _ _ _ _ _ _ _ from HH.out).cells
  go_wp2_with fail
  refine (put_err g 0 0 0 none c _ 1 _ (show Cur (w) _ _ _ _ from HC.out) (by omega) (by omega) (by omega) (by omega)).mono ?_
  rintro e v0 ⟨rfl, m0, rfl⟩
  clear h0 h1 h2 h3 h4 h5 h6 h7 h8 h9
  obtain ⟨h0, h1, h2, h3, h4, h5, h6, h7, h8, h9⟩ := (show HdC (w.drewN m0) _ _ _ _ _ _ _ _ _ _ _ from HH.out).cells
  go_wp2_with fail
  refine (put_err g 0 0 0 none c _ 1 _ (show Cur (w.drewN m0) _ _ _ _ from HC.out) (by omega) (by omega) (by omega) (by omega)).mono ?_
  rintro e v1 ⟨rfl, m1, rfl⟩
  clear h0 h1 h2 h3 h4 h5 h6 h7 h8 h9
  obtain ⟨h0, h1, h2, h3, h4, h5, h6, h7, h8, h9⟩ := (show HdC (w.drewN (m0 + m1)) _ _ _ _ _ _ _ _ _ _ _ from HH.out).cells
  go_wp2_with fail
  refine (put_err g 0 0 0 none c _ 2 _ (show Cur (w.drewN (m0 + m1)) _ _ _ _ from HC.out) (by omega) (by omega) (by omega) (by omega)).mono ?_
  rintro e v2 ⟨rfl, m2, rfl⟩
  clear h0 h1 h2 h3 h4 h5 h6 h7 h8 h9
  obtain ⟨h0, h1, h2, h3, h4, h5, h6, h7, h8, h9⟩ := (show HdC (w.drewN (m0 + m1 + m2)) _ _ _ _ _ _ _ _ _ _ _ from HH.out).cells
  go_wp2_with fail
  refine (put_err g 0 0 0 none c _ 2 _ (show Cur (w.drewN (m0 + m1 + m2)) _ _ _ _ from HC.out) (by omega) (by omega) (by omega) (by omega)).mono ?_
  rintro e v3 ⟨rfl, m3, rfl⟩
  clear h0 h1 h2 h3 h4 h5 h6 h7 h8 h9
  obtain ⟨h0, h1, h2, h3, h4, h5, h6, h7, h8, h9⟩ := (show HdC (w.drewN (m0 + m1 + m2 + m3)) _ _ _ _ _ _ _ _ _ _ _ from HH.out).cells
  go_wp2_with fail
  refine (put_err g 0 0 0 none c _ 2 _ (show Cur (w.drewN (m0 + m1 + m2 + m3)) _ _ _ _ from HC.out) (by omega) (by omega) (by omega) (by omega)).mono ?_
  rintro e v4 ⟨rfl, m4, rfl⟩
  clear h0 h1 h2 h3 h4 h5 h6 h7 h8 h9
  obtain ⟨h0, h1, h2, h3, h4, h5, h6, h7, h8, h9⟩ := (show HdC (w.drewN (m0 + m1 + m2 + m3 + m4)) _ _ _ _ _ _ _ _ _ _ _ from HH.out).cells
  go_wp2_with fail
  refine (put_err g 0 0 0 none c _ 1 _ (show Cur (w.drewN (m0 + m1 + m2 + m3 + m4)) _ _ _ _ from HC.out) (by omega) (by omega) (by omega) (by omega)).mono ?_
  rintro e v5 ⟨rfl, m5, rfl⟩
  clear h0 h1 h2 h3 h4 h5 h6 h7 h8 h9
  obtain ⟨h0, h1, h2, h3, h4, h5, h6, h7, h8, h9⟩ := (show HdC (w.drewN (m0 + m1 + m2 + m3 + m4 + m5)) _ _ _ _ _ _ _ _ _ _ _ from HH.out).cells
  go_wp2_with fail
  refine (put_err g 0 0 0 none c _ 1 _ (show Cur (w.drewN (m0 + m1 + m2 + m3 + m4 + m5)) _ _ _ _ from HC.out) (by omega) (by omega) (by omega) (by omega)).mono ?_
  rintro e v6 ⟨rfl, m6, rfl⟩
  clear h0 h1 h2 h3 h4 h5 h6 h7 h8 h9
  go_wp2_with fail
  refine (pass_err g 0 0 0 none c 2 _ (show Cur (w.drewN (m0 + m1 + m2 + m3 + m4 + m5 + m6)) _ _ _ _ from HC.out) (by omega) (by omega) (by omega) (by omega)).mono ?_
  rintro e v7 ⟨rfl, m7, rfl⟩
  obtain ⟨h0, h1, h2, h3, h4, h5, h6, h7, h8, h9⟩ := (show HdC (w.drewN (m0 + m1 + m2 + m3 + m4 + m5 + m6 + m7)) _ _ _ _ _ _ _ _ _ _ _ from HH.out).cells
  go_wp2_with fail
  refine (put_err g 0 0 0 none c _ 4 _ (show Cur (w.drewN (m0 + m1 + m2 + m3 + m4 + m5 + m6 + m7)) _ _ _ _ from HC.out) (by omega) (by omega) (by omega) (by omega)).mono ?_
  rintro e v8 ⟨rfl, m8, rfl⟩
  clear h0 h1 h2 h3 h4 h5 h6 h7 h8 h9
  obtain ⟨h0, h1, h2, h3, h4, h5, h6, h7, h8, h9⟩ := (show HdC (w.drewN (m0 + m1 + m2 + m3 + m4 + m5 + m6 + m7 + m8)) _ _ _ _ _ _ _ _ _ _ _ from HH.out).cells
  go_wp2_with fail
  refine (put_err g 0 0 0 none c _ 4 _ (show Cur (w.drewN (m0 + m1 + m2 + m3 + m4 + m5 + m6 + m7 + m8)) _ _ _ _ from HC.out) (by omega) (by omega) (by omega) (by omega)).mono ?_
  rintro e v9 ⟨rfl, m9, rfl⟩
  clear h0 h1 h2 h3 h4 h5 h6 h7 h8 h9
  obtain ⟨h0, h1, h2, h3, h4, h5, h6, h7, h8, h9⟩ := (show HdC (w.drewN (m0 + m1 + m2 + m3 + m4 + m5 + m6 + m7 + m8 + m9)) _ _ _ _ _ _ _ _ _ _ _ from HH.out).cells
  go_wp2_with fail
  refine (putBytes_err g 0 0 0 n0 c0 none a0 c _ (show Cur (w.drewN (m0 + m1 + m2 + m3 + m4 + m5 + m6 + m7 + m8 + m9)) _ _ _ _ from HC.out) (by omega) (by omega) (by omega)).mono ?_
  rintro e v ⟨rfl, mb, rfl⟩
  clear h0 h1 h2 h3 h4 h5 h6 h7 h8 h9
  go_wp2_with fail
  refine (passed_none g (wErr c) _ (show Cur (w.drewN (m0 + m1 + m2 + m3 + m4 + m5 + m6 + m7 + m8 + m9 + mb)) _ _ _ _ from HC.out)).mono ?_
  rintro e v ⟨rfl, mp, rfl⟩
  have CK := hide (fun W => checksum_walk none 0 0 [] W rfl ⟨by simp, fun j hj => by simp at hj⟩ (by omega))
  go_wp2_with fail
  refine (CK.out _).mono ?_
  rintro e wb ⟨rfl, hbk, _⟩
  have HB : Hid (Below w.heap.size w wb) := hide ⟨hbk.os, hbk.tape, hbk.output, hbk.size, hbk.block⟩
  clear hbk CK
  go_wp2_with fail
  refine (putNumber_none _ _).mono ?_
  rintro e v ⟨rfl, rfl⟩
  go_wp2_with fail
  go_end0
  exact ⟨rfl, HB.out⟩
set_option maxRecDepth 100000
theorem HoldV.only {w w' : World} {H T : Nat} {S : List Nat} {vs : Array Value} (h : HoldV w H vs T) (k : Only S w w') (hn : H ∉ S) : HoldV w' H vs T := (k.block H h.lt hn).trans h
/-- A message's bytes, its sum not yet in it. -/
def icP (t c r : Int) (z : List Int) : List Int := putL t 1 ++ putL c 1 ++ [0, 0] ++ putL r 4 ++ z
theorem icP_len (t c r : Int) (z : List Int) : (icP t c r z).length = 8 + z.length := by unfold icP; simp [putL_len]; omega
theorem icP_bd (t c r : Int) (z : List Int) (h : ∀ q ∈ z, 0 ≤ q ∧ q ≤ 255) : ∀ q ∈ icP t c r z, 0 ≤ q ∧ q ≤ 255 := by
  intro q hq
  unfold icP at hq
  simp only [List.mem_append] at hq
  rcases hq with (((hq | hq) | hq) | hq) | hq
  · exact putL_bd _ _ q hq
  · exact putL_bd _ _ q hq
  · simp only [List.mem_cons, List.not_mem_nil, or_false] at hq; omega
  · exact putL_bd _ _ q hq
  · exact h q hq
theorem saidSize_walk (c r : Int) (a : Option Addr) (n cap : Nat) (w : World) (hm : n ≤ 1048576) : Calls Tryz.prog 111 #[.agg #[.int .i64 c, .int .i64 r, .slice a n cap]] w fun e w' => e = .returned (.int .i64 ((8 + n : Nat) : Int)) ∧ Below w.heap.size w w' := by
  have e1 : IntKind.i64.wrap (8 + (n : Int)) = ((8 + n : Nat) : Int) := by rw [IntKind.wrap_i64]; omega
  have HB := hide ((Below.refl w.heap.size w).alloc (Nat.le_refl _) (.cells #[.int .i64 c, .int .i64 r, .slice a n cap] 99))
  go_enter Tryz.func111, Tryz.ntmps111
  go_wp2
  go_ret
  exact ⟨rfl, HB.out⟩
set_option maxHeartbeats 8000000 in
theorem putAs_ok (g G N n cap : Nat) (a : Option Addr) (t c r : Int) (z : List Int) (w : World) (hc : Cur w g (.slice (some ⟨G, 0, none⟩) N N) 0 .nilIface) (hr : RowB w G (List.replicate N 0)) (hg : g < G) (hN : 8 + n = N) (hb : N ≤ 1048576) (hz : z.length = n) (ha : Arr w a z) (hag : ∀ j, j < z.length → ∃ b off, a = some ⟨b, off, none⟩ ∧ b < g) :
    Calls Tryz.prog 113 #[.agg #[.int .i64 c, .int .i64 r, .slice a n cap], .int .i64 t, .pointer (some ⟨g, 0, none⟩)] w fun e w' => e = .returned (.tuple #[]) ∧ Cur w' g (.slice (some ⟨G, 0, none⟩) N N) N .nilIface ∧ RowB w' G (splice (icP t c r z) 2 (putL (csum (icP t c r z)) 2)) ∧ Only [g, G] w w' := by
  have HW := hide (BoxV.start w #[.int .i64 c, .int .i64 r, .slice a n cap] 99)
  have hgl := hc.lt
  have hGl := hr.lt
  have HC0 := hide (hc.below HW.out.1 hgl)
  have hr0 : RowB (w.alloc (.cells #[.int .i64 c, .int .i64 r, .slice a n cap] 99)) G ([] ++ List.replicate N 0) := hr.below HW.out.1 hGl
  have HR0 := hide hr0
  have HH0 : Hid (HoldV (w.alloc (.cells #[.int .i64 c, .int .i64 r, .slice a n cap] 99)) w.heap.size #[.int .i64 c, .int .i64 r, .slice a n cap] 99) := hide HW.out.2.2
  have HO0 : Hid (Only [g, G] w (w.alloc (.cells #[.int .i64 c, .int .i64 r, .slice a n cap] 99))) := hide (Only.of_below HW.out.1)
  have HNE : Hid (w.heap.size ∉ [g, G]) := hide (by simp; omega)
  have HZ := hide hz
  have HA := hide ha
  have HAG := hide hag
  clear hc hr hr0 hz ha hag hGl hgl HW
  go_enter Tryz.func113, Tryz.ntmps113
  have C := hide (put_on1 g G N 0 (N) t ([]) _ HC0.out HR0.out hg rfl (by omega) hb (by omega))
  have k0 := HH0.out.cell 0 _ rfl
  have k1 := HH0.out.cell 1 _ rfl
  have k2 := HH0.out.cell 2 _ rfl
  go_wp2_with fail
  refine C.out.mono ?_
  rintro e w1 ⟨rfl, hc, hr, ho⟩
  have HC1 : Hid (Cur w1 g (.slice (some ⟨G, 0, none⟩) N N) 1 .nilIface) := hide hc
  have HR1 := hide hr
  have HH1 := hide (HH0.out.only ho HNE.out)
  have HO1 := hide (HO0.out.trans ho)
  clear C hc hr ho k0 k1 k2 HC0 HR0 HH0 HO0
  have C := hide (put_on1 g G N 1 (N - 1) c ([] ++ putL t 1) _ HC1.out HR1.out hg (by simp [putL_len]) (by omega) hb (by omega))
  have k0 := HH1.out.cell 0 _ rfl
  have k1 := HH1.out.cell 1 _ rfl
  have k2 := HH1.out.cell 2 _ rfl
  go_wp2_with fail
  refine C.out.mono ?_
  rintro e w2 ⟨rfl, hc, hr, ho⟩
  have HC2 : Hid (Cur w2 g (.slice (some ⟨G, 0, none⟩) N N) 2 .nilIface) := hide hc
  have HR2 := hide hr
  have HH2 := hide (HH1.out.only ho HNE.out)
  have HO2 := hide (HO1.out.trans ho)
  clear C hc hr ho k0 k1 k2 HC1 HR1 HH1 HO1
  have C := hide (pass_on2 g G N 2 w2 HC2.out hb (by omega))
  go_wp2_with fail
  refine C.out.mono ?_
  rintro e w3 ⟨rfl, hc, ho⟩
  have HC3 : Hid (Cur w3 g (.slice (some ⟨G, 0, none⟩) N N) 4 .nilIface) := hide hc
  have hr := HR2.out.kept ho (by intro e; cases e; omega)
  rw [rep_two _ _ (by omega)] at hr
  have HR3 := hide hr
  have ho2 : Only [g, G] w2 w3 := (Only.of_some ho).mono (by simp)
  have HH3 := hide (HH2.out.only ho2 HNE.out)
  have HO3 := hide (HO2.out.trans ho2)
  clear C hc hr ho ho2 HC2 HR2 HH2 HO2
  have C := hide (put_on4 g G N 4 (N - 1 - 1 - 2) r ([] ++ putL t 1 ++ putL c 1 ++ [0, 0]) _ HC3.out HR3.out hg (by simp [putL_len]) (by omega) hb (by omega))
  have k0 := HH3.out.cell 0 _ rfl
  have k1 := HH3.out.cell 1 _ rfl
  have k2 := HH3.out.cell 2 _ rfl
  go_wp2_with fail
  refine C.out.mono ?_
  rintro e w4 ⟨rfl, hc, hr, ho⟩
  have HC4 : Hid (Cur w4 g (.slice (some ⟨G, 0, none⟩) N N) 8 .nilIface) := hide hc
  have HR4 := hide hr
  have HH4 := hide (HH3.out.only ho HNE.out)
  have HO4 := hide (HO3.out.trans ho)
  clear C hc hr ho k0 k1 k2 HC3 HR3 HH3 HO3
  have HAN : Hid (∀ j, j < z.length → ∃ b off, a = some ⟨b, off, none⟩ ∧ b ∉ [g, G]) := hide (fun j hj => by obtain ⟨b, off, e, hlt⟩ := HAG.out j hj; exact ⟨b, off, e, by simp; omega⟩)
  have C := hide (putBytes_onl g G N 8 (N - 1 - 1 - 2 - 4) n cap a ([] ++ putL t 1 ++ putL c 1 ++ [0, 0] ++ putL r 4) z w4 HC4.out HR4.out hg (by simp [putL_len]) (by omega) hb (by omega) HZ.out (arr_only HA.out HO4.out HAN.out) HAG.out)
  have k0 := HH4.out.cell 0 _ rfl
  have k1 := HH4.out.cell 1 _ rfl
  have k2 := HH4.out.cell 2 _ rfl
  go_wp2_with fail
  refine C.out.mono ?_
  rintro e w5 ⟨rfl, hc, hr, ho⟩
  have hcN : Cur w5 g (.slice (some ⟨G, 0, none⟩) N N) N .nilIface := by
    rw [hN] at hc
    exact hc
  have HC := hide hcN
  have HR : Hid (RowB w5 G (icP t c r z)) := hide (by
    have e : N - 1 - 1 - 2 - 4 - n = 0 := by omega
    rw [e, List.replicate_zero, List.append_nil] at hr
    exact hr)
  have HO := hide (HO4.out.trans ho)
  clear C hc hcN hr ho k0 k1 k2 HC4 HR4 HH4 HO4
  have HBD := hide (icP_bd t c r z HA.out.1)
  have HL : Hid ((icP t c r z).length = N) := hide (by rw [icP_len, HZ.out, hN])
  generalize hD : icP t c r z = D at *
  have HD := hide hD
  clear hD
  have CP := hide (passed_walk g N N N G 0 .nilIface w5 HC.out (Nat.le_refl _) (by omega))
  go_wp2_with fail
  refine CP.out.mono ?_
  rintro e wa ⟨rfl, m, rfl⟩
  have hk := checksum_walk (some ⟨G, 0, none⟩) N N D (w5.drewN m) HL.out (HR.out.arr HBD.out) (by omega)
  have CK : Hid (Calls Tryz.prog 43 #[.slice (some ⟨G, 0, none⟩) N N] (w5.drewN m) fun e w' => e = .returned (.int .i64 (csum D)) ∧ Below (w5.drewN m).heap.size (w5.drewN m) w') := hide (hk.mono (by rintro e w' ⟨rfl, hb, _⟩; refine ⟨?_, hb⟩; unfold csum; rw [HL.out]))
  clear hk CP
  go_wp2_with fail
  refine CK.out.mono ?_
  rintro e wb ⟨rfl, hbk⟩
  have hb2 : Below w5.heap.size w5 wb := ⟨hbk.os, hbk.tape, hbk.output, hbk.size, hbk.block⟩
  have HC2 := hide (HC.out.below hb2 HC.out.lt)
  have HR2 := hide (HR.out.below hb2 HR.out.lt)
  have HO2 := hide (HO.out.trans (Only.of_below hb2))
  clear CK hbk hb2 HC HR HO
  have CN := hide (putNumber_at G 2 2 (N - 2) (csum D) _ wb (by omega) HR2.out (by rw [HL.out]; omega))
  go_wp2_with fail
  refine CN.out.mono ?_
  rintro e wc ⟨rfl, hr, hgc⟩
  have HC3 := hide (HC2.out.kept hgc (by intro e; cases e; omega))
  have HR3 := hide hr
  have HO3 := hide (HO2.out.trans ((Only.of_some hgc).mono (by simp)))
  clear CN hr hgc HC2 HR2 HO2
  go_wp2_with fail
  go_end0
  exact ⟨rfl, HC3.out, by rw [HD.out]; exact HR3.out, HO3.out⟩
set_option maxHeartbeats 8000000 in
theorem putAs_err (g n cap : Nat) (a : Option Addr) (t c r q : Int) (w : World) (hc : Cur w g (.slice none 0 0) 0 (wErr q)) (hm : n ≤ 1048576) :
    Calls Tryz.prog 113 #[.agg #[.int .i64 c, .int .i64 r, .slice a n cap], .int .i64 t, .pointer (some ⟨g, 0, none⟩)] w fun e w' => e = .returned (.tuple #[]) ∧ Below w.heap.size w w' := by
  have HW := hide (BoxV.start w #[.int .i64 c, .int .i64 r, .slice a n cap] 99)
  have HC := hide (hc.below HW.out.1 hc.lt)
  have HH : Hid (HoldV (w.alloc (.cells #[.int .i64 c, .int .i64 r, .slice a n cap] 99)) w.heap.size #[.int .i64 c, .int .i64 r, .slice a n cap] 99) := hide HW.out.2.2
  clear hc
  go_enter Tryz.func113, Tryz.ntmps113
  have k0 := (show HoldV ((w.alloc (.cells #[.int .i64 c, .int .i64 r, .slice a n cap] 99))) _ _ _ from HH.out).cell 0 _ rfl
  have k1 := (show HoldV ((w.alloc (.cells #[.int .i64 c, .int .i64 r, .slice a n cap] 99))) _ _ _ from HH.out).cell 1 _ rfl
  have k2 := (show HoldV ((w.alloc (.cells #[.int .i64 c, .int .i64 r, .slice a n cap] 99))) _ _ _ from HH.out).cell 2 _ rfl
  go_wp2_with fail
  refine (put_err g 0 0 0 none q _ 1 _ (show Cur ((w.alloc (.cells #[.int .i64 c, .int .i64 r, .slice a n cap] 99))) _ _ _ _ from HC.out) (by omega) (by omega) (by omega) (by omega)).mono ?_
  rintro e v0 ⟨rfl, m0, rfl⟩
  clear k0 k1 k2
  have k0 := (show HoldV ((w.alloc (.cells #[.int .i64 c, .int .i64 r, .slice a n cap] 99)).drewN m0) _ _ _ from HH.out).cell 0 _ rfl
  have k1 := (show HoldV ((w.alloc (.cells #[.int .i64 c, .int .i64 r, .slice a n cap] 99)).drewN m0) _ _ _ from HH.out).cell 1 _ rfl
  have k2 := (show HoldV ((w.alloc (.cells #[.int .i64 c, .int .i64 r, .slice a n cap] 99)).drewN m0) _ _ _ from HH.out).cell 2 _ rfl
  go_wp2_with fail
  refine (put_err g 0 0 0 none q _ 1 _ (show Cur ((w.alloc (.cells #[.int .i64 c, .int .i64 r, .slice a n cap] 99)).drewN m0) _ _ _ _ from HC.out) (by omega) (by omega) (by omega) (by omega)).mono ?_
  rintro e v1 ⟨rfl, m1, rfl⟩
  clear k0 k1 k2
  go_wp2_with fail
  refine (pass_err g 0 0 0 none q 2 _ (show Cur ((w.alloc (.cells #[.int .i64 c, .int .i64 r, .slice a n cap] 99)).drewN (m0 + m1)) _ _ _ _ from HC.out) (by omega) (by omega) (by omega) (by omega)).mono ?_
  rintro e v2 ⟨rfl, m2, rfl⟩
  have k0 := (show HoldV ((w.alloc (.cells #[.int .i64 c, .int .i64 r, .slice a n cap] 99)).drewN (m0 + m1 + m2)) _ _ _ from HH.out).cell 0 _ rfl
  have k1 := (show HoldV ((w.alloc (.cells #[.int .i64 c, .int .i64 r, .slice a n cap] 99)).drewN (m0 + m1 + m2)) _ _ _ from HH.out).cell 1 _ rfl
  have k2 := (show HoldV ((w.alloc (.cells #[.int .i64 c, .int .i64 r, .slice a n cap] 99)).drewN (m0 + m1 + m2)) _ _ _ from HH.out).cell 2 _ rfl
  go_wp2_with fail
  refine (put_err g 0 0 0 none q _ 4 _ (show Cur ((w.alloc (.cells #[.int .i64 c, .int .i64 r, .slice a n cap] 99)).drewN (m0 + m1 + m2)) _ _ _ _ from HC.out) (by omega) (by omega) (by omega) (by omega)).mono ?_
  rintro e v3 ⟨rfl, m3, rfl⟩
  clear k0 k1 k2
  have k0 := (show HoldV ((w.alloc (.cells #[.int .i64 c, .int .i64 r, .slice a n cap] 99)).drewN (m0 + m1 + m2 + m3)) _ _ _ from HH.out).cell 0 _ rfl
  have k1 := (show HoldV ((w.alloc (.cells #[.int .i64 c, .int .i64 r, .slice a n cap] 99)).drewN (m0 + m1 + m2 + m3)) _ _ _ from HH.out).cell 1 _ rfl
  have k2 := (show HoldV ((w.alloc (.cells #[.int .i64 c, .int .i64 r, .slice a n cap] 99)).drewN (m0 + m1 + m2 + m3)) _ _ _ from HH.out).cell 2 _ rfl
  go_wp2_with fail
  refine (putBytes_err g 0 0 0 n cap none a q _ (show Cur ((w.alloc (.cells #[.int .i64 c, .int .i64 r, .slice a n cap] 99)).drewN (m0 + m1 + m2 + m3)) _ _ _ _ from HC.out) (by omega) (by omega) (by omega)).mono ?_
  rintro e v ⟨rfl, mb, rfl⟩
  clear k0 k1 k2
  go_wp2_with fail
  refine (passed_none g (wErr q) _ (show Cur ((w.alloc (.cells #[.int .i64 c, .int .i64 r, .slice a n cap] 99)).drewN (m0 + m1 + m2 + m3 + mb)) _ _ _ _ from HC.out)).mono ?_
  rintro e v ⟨rfl, mp, rfl⟩
  have CK := hide (fun W => checksum_walk none 0 0 [] W rfl ⟨by simp, fun j hj => by simp at hj⟩ (by omega))
  go_wp2_with fail
  refine (CK.out _).mono ?_
  rintro e wb ⟨rfl, hbk, _⟩
  have HB : Hid (Below w.heap.size w wb) := hide (HW.out.1.trans (Below.mono (B := (w.alloc (.cells #[.int .i64 c, .int .i64 r, .slice a n cap] 99)).heap.size) ⟨hbk.os, hbk.tape, hbk.output, hbk.size, hbk.block⟩ HW.out.1.size))
  clear hbk CK
  go_wp2_with fail
  refine (putNumber_none _ _).mono ?_
  rintro e v ⟨rfl, rfl⟩
  go_wp2_with fail
  go_end0
  exact ⟨rfl, HB.out⟩
set_option maxRecDepth 100000
theorem still_of_quiet {P : Program} {ops : Array Oper} {w : World} {Q : Act → Prop} : ∀ (l : List Oper) (a : Act), wpQuiet P ops (fun w' => w' = w) Q l a → wpStill P ops w Q l a
  | [], _, h => h
  | o :: rest, a, h => by
    unfold wpQuiet at h
    unfold wpStill
    by_cases hw : Region.wanted o (yielded ops a.tmps) = true
    · rw [if_pos hw] at h ⊢
      obtain ⟨v, h1, h2⟩ := h
      have h3 := h1 w rfl
      have h4 := still_of_quiet rest _ h2
      unfold Oper.quietAt at h3
      unfold Oper.still
      revert h3
      generalize (execOp a.eval o).run P w = R
      intro h3
      unfold Oper.quietUpon at h3
      unfold Oper.stillUpon
      split at h3
      · obtain ⟨rfl, rfl⟩ := h3
        exact ⟨rfl, h4⟩
      · obtain ⟨rfl, rfl⟩ := h3
        exact ⟨rfl, h4⟩
      · obtain ⟨rfl, hc⟩ := h3
        exact ⟨rfl, v, hc, h4⟩
      · exact h3.elim
    · rw [if_neg hw] at h ⊢
      exact still_of_quiet rest _ h
/-- A region that only looks, and then does what has waited for all of it. -/
theorem region_tail {P : Program} {id : Nat} {Q : Exit → Act → World → Prop} {a : Act} {w : World} {l : List Oper} (n : Nat) (hm : P.follows .mixedOrders = true) (hB : Region.lexTailB .any l.toArray n = true)
    (h : wpQuiet P l.toArray (fun w' => w' = w.drew) (fun a' => wpList P l.toArray Q (l.drop n) a' w.drew) (l.take n) a) : (Code.region id l.toArray true).wp P Q a w := wp_region_still_tail n hm hB (still_of_quiet _ _ h)
theorem Cur.drew {w : World} {g p : Nat} {bv ev : Value} (h : Cur w g bv p ev) : Cur w.drew g bv p ev := h
set_option maxRecDepth 100000
theorem splice_left (xs ys cs : List Int) (p : Nat) (h : p + cs.length ≤ xs.length) : splice (xs ++ ys) p cs = splice xs p cs ++ ys := by
  unfold splice
  rw [List.take_append_of_le_length (by omega), List.drop_append_of_le_length h]
  simp
theorem splice_bd (xs cs : List Int) (p : Nat) (h : ∀ z ∈ xs, 0 ≤ z ∧ z ≤ 255) (k : ∀ z ∈ cs, 0 ≤ z ∧ z ≤ 255) : ∀ z ∈ splice xs p cs, 0 ≤ z ∧ z ≤ 255 := by
  intro z hz
  unfold splice at hz
  simp only [List.mem_append] at hz
  rcases hz with hz | hz | hz
  · exact h z (List.mem_of_mem_take hz)
  · exact k z hz
  · exact h z (List.mem_of_mem_drop hz)
/-- The Icmp's box and the cursor's, laid. -/
abbrev encIW (w : World) (t c r : Int) (v : Value) : World := (w.alloc (.cells #[.int .i64 t, .int .i64 c, .int .i64 r, v] 34)).alloc (.cells #[.slice none 0 0, .int .i64 0, .nilIface] 65)
theorem encIW_facts (w : World) (t c r : Int) (v : Value) : BoxIcmp w (encIW w t c r v) t c r v ∧ Cur (encIW w t c r v) (w.heap.size + 1) (.slice none 0 0) 0 .nilIface := by
  have h1 := BoxIcmp.start w t c r v 34
  have hs := World.size_alloc w (.cells #[.int .i64 t, .int .i64 c, .int .i64 r, v] 34)
  refine ⟨h1.next ((Below.refl _ _).alloc (Nat.le_refl _) _), ?_⟩
  unfold Cur
  rw [← hs]
  exact heap_alloc_new _ _
set_option maxHeartbeats 4000000 in
theorem implEncI_ok (t c r : Int) (a : Option Addr) (n cap : Nat) (z : List Int) (w : World) (h : icOK t c r = true) (hn : n ≤ 65000) (hz : z.length = n) (ha : Arr w a z)
    (T F1 F2 : Nat) (v r1 r2 : Value) (hv : msgV t c r (.slice a n cap) = .iface T v)
    (h1 : ∀ W, (Go.method 283 T v "loop.example/g00003/impl.size").run Tryz.prog W = .ok (F1, r1) W)
    (h2 : ∀ W, (Go.method 283 T v "loop.example/g00003/impl.put").run Tryz.prog W = .ok (F2, r2) W)
    (q1 : ∀ (args : Array Value) (W : World), (callFunc F1 args).run Tryz.prog W = .ok (.enter F1 args) W)
    (q2 : ∀ (args : Array Value) (W : World), (callFunc F2 args).run Tryz.prog W = .ok (.enter F2 args) W)
    (k1 : ∀ W, Calls Tryz.prog F1 #[r1] W fun e w' => e = .returned (.int .i64 ((8 + n : Nat) : Int)) ∧ Below W.heap.size W w')
    (k2 : ∀ (g G : Nat) (W : World), Cur W g (.slice (some ⟨G, 0, none⟩) (8 + n) (8 + n)) 0 .nilIface → RowB W G (List.replicate (8 + n) 0) → g < G → Arr W a z → (∀ j, j < z.length → ∃ b off, a = some ⟨b, off, none⟩ ∧ b < g) →
      Calls Tryz.prog F2 #[r2, .pointer (some ⟨g, 0, none⟩)] W fun e w' => e = .returned (.tuple #[]) ∧ Cur w' g (.slice (some ⟨G, 0, none⟩) (8 + n) (8 + n)) (8 + n) .nilIface ∧ RowB w' G (splice (icP t c r z) 2 (putL (csum (icP t c r z)) 2)) ∧ Only [g, G] W w') (L : List Int) (hL : splice (icP t c r z) 2 (putL (csum (icP t c r z)) 2) = L) :
    Calls Tryz.prog 30 #[.agg #[.int .i64 t, .int .i64 c, .int .i64 r, .slice a n cap]] w fun e w' => ∃ v : Value, e = .returned (.tuple #[v, .int .i64 0]) ∧ OwnB w' w.heap.size v L ∧ Below w.heap.size w w' := by
  have HF := hide (encIW_facts w t c r (.slice a n cap))
  have CV := hide (fun W => by have h' := validIcmp_walk t c r a n cap W; rw [h] at h'; exact h')
  have CM := hide (fun W => by have h' := messageOf_walk t c r a n cap W; rw [hv] at h'; exact h')
  have HA := hide ha
  have HZ := hide hz
  have K1 := hide k1
  have K2 := hide k2
  have hn' : (n : Int) ≤ 65000 := by omega
  have HLq := hide hL
  clear h hv ha hz k1 k2 hL
  obtain ⟨⟨_, _, k0, k1, k2, k3⟩, hc0⟩ := HF.out
  clear hc0
  go_enter Tryz.func30, Tryz.ntmps30
  go_wp2_with fail
  generalize hW : encIW w t c r (.slice a n cap) = W at *
  unfold encIW at hW
  rw [hW]
  clear hW
  refine (CV.out _).mono ?_
  rintro e w1 ⟨rfl, hb1⟩
  have HB1 := hide (HF.out.1.next hb1)
  have HC1 := hide (HF.out.2.below hb1 HF.out.2.lt)
  clear k0 k1 k2 k3 HF hb1 CV
  obtain ⟨_, _, k0, k1, k2, k3⟩ := HB1.out
  go_wp2_with fail
  refine (demand_yes (w.heap.size + 1) 0 (.slice none 0 0) _ _ HC1.out).mono ?_
  rintro e w2 ⟨rfl, hw2⟩
  rw [hw2]
  clear hw2
  go_wp2_with fail
  refine (demand_yes (w.heap.size + 1) 0 (.slice none 0 0) _ _ HC1.out).mono ?_
  rintro e w2 ⟨rfl, hw2⟩
  rw [hw2]
  clear hw2
  go_wp2_with fail
  refine (CM.out _).mono ?_
  rintro e w2 ⟨rfl, hb2⟩
  have HB2 := hide (HB1.out.next hb2)
  have HC2 := hide (HC1.out.below hb2 HC1.out.lt)
  clear k0 k1 k2 k3 HB1 HC1 hb2 CM
  go_wp2_with fail
  refine (K1.out _).mono ?_
  rintro e w3 ⟨rfl, hb3⟩
  have HB3 := hide (HB2.out.next hb3)
  have HC3 := hide (HC2.out.below hb3 HC2.out.lt)
  clear HB2 HC2 hb3 K1
  have CM := hide (makeRoom_ok (w.heap.size + 1) 0 (.slice none 0 0) (8 + n) w3 HC3.out (by omega))
  go_wp2_with fail
  refine CM.out.mono ?_
  rintro e w4 ⟨rfl, hc4, hr4, hg4⟩
  have hsz0 := HC3.out.lt
  have HB4 := hide (HB3.out.keep (grown_under hg4 (Nat.le_refl _) (by omega)) (by omega))
  have HC4 := hide hc4
  have HR4 := hide hr4
  clear CM hc4 hr4 hg4 HB3 HC3
  generalize w3.heap.size = G at *
  have HAG : Hid (∀ j, j < z.length → ∃ b off, a = some ⟨b, off, none⟩ ∧ b < w.heap.size + 1) := hide (fun j hj => by obtain ⟨b, off, e, hlt, _⟩ := HA.out.2 j hj; exact ⟨b, off, e, by omega⟩)
  have CU := hide (K2.out (w.heap.size + 1) G w4 HC4.out HR4.out (by omega) (HA.out.below HB4.out.1 (Nat.le_refl _)) HAG.out)
  clear K2
  go_wp2_with fail
  refine CU.out.mono ?_
  rintro e w6 ⟨rfl, hc6, hr6, ho6⟩
  have hb6 : Below (w.heap.size + 1) w4 w6 := ho6.below (by intro x hx; simp at hx; omega) (by have := HC4.out.lt; omega)
  have HB6 := hide (HB4.out.keep hb6 (by omega)).1
  have HC6 := hide hc6
  have HR6 := hide hr6
  have HL : Hid ((splice (icP t c r z) 2 (putL (csum (icP t c r z)) 2)).length = 8 + n) := hide (by rw [length_splice _ _ _ (by rw [putL_len, icP_len]; omega), icP_len, HZ.out])
  have HBD : Hid (∀ q ∈ splice (icP t c r z) 2 (putL (csum (icP t c r z)) 2), 0 ≤ q ∧ q ≤ 255) := hide (splice_bd _ _ _ (icP_bd _ _ _ _ HA.out.1) (fun z hz => putL_bd _ _ z hz))
  clear CU hc6 hr6 ho6 hb6 HB4 HC4 HR4
  generalize splice (icP t c r z) 2 (putL (csum (icP t c r z)) 2) = D at *
  have HO := HR6.out.own (B := w.heap.size) (by omega) HBD.out (by rw [HL.out]; omega)
  rw [HL.out] at HO
  rw [HLq.out] at HO
  have HO' := hide HO
  clear HO
  go_wp2_with fail
  have HO7 := hide (HO'.out.drew)
  have HB7 := hide (HB6.out.drew)
  obtain ⟨c0, c1, c2, cf⟩ := HC6.out.cells
  clear HO' HB6 HR6
  have HC7 := hide (Cur.drew (w := w6) HC6.out)
  go_region_held3 (fun w' => w'.cell? ⟨w.heap.size + 1, 0, none⟩ = some (.slice (some ⟨G, 0, none⟩) (8 + n) (8 + n)) ∧ w'.cell? ⟨w.heap.size + 1, 2, none⟩ = some .nilIface) (first | with_reducible assumption | exact ⟨HC7.out.cells.1, HC7.out.cells.2.2.1⟩ | exact ⟨(HC7.out.below hb8 HC7.out.lt).cells.1, (HC7.out.below hb8 HC7.out.lt).cells.2.2.1⟩)
    ((go_at_call 39; refine (ansB_nil _ _ _ _).mono ?_; rintro e w8 ⟨rfl, hb8⟩))
  all_goals
    have HO8 := hide (HO7.out.next hb8)
    have HB8 := hide (HB7.out.trans (hb8.mono HB7.out.size))
    clear hb8
    go_wp2_with fail
    go_ret2
    exact ⟨_, rfl, HO8.out, HB8.out⟩
set_option maxHeartbeats 4000000 in
theorem implEncI_form (t c r : Int) (a : Option Addr) (n cap : Nat) (w : World) (h : icOK t c r = false) (hm : n ≤ 1048576) (he : ErrT w)
    (T F1 F2 : Nat) (v r1 r2 : Value) (hv : msgV t c r (.slice a n cap) = .iface T v)
    (h1 : ∀ W, (Go.method 283 T v "loop.example/g00003/impl.size").run Tryz.prog W = .ok (F1, r1) W)
    (h2 : ∀ W, (Go.method 283 T v "loop.example/g00003/impl.put").run Tryz.prog W = .ok (F2, r2) W)
    (q1 : ∀ (args : Array Value) (W : World), (callFunc F1 args).run Tryz.prog W = .ok (.enter F1 args) W)
    (q2 : ∀ (args : Array Value) (W : World), (callFunc F2 args).run Tryz.prog W = .ok (.enter F2 args) W)
    (k1 : ∀ W, Calls Tryz.prog F1 #[r1] W fun e w' => e = .returned (.int .i64 ((8 + n : Nat) : Int)) ∧ Below W.heap.size W w')
    (k2 : ∀ (g : Nat) (q : Int) (W : World), Cur W g (.slice none 0 0) 0 (wErr q) →
      Calls Tryz.prog F2 #[r2, .pointer (some ⟨g, 0, none⟩)] W fun e w' => e = .returned (.tuple #[]) ∧ Below W.heap.size W w') :
    Calls Tryz.prog 30 #[.agg #[.int .i64 t, .int .i64 c, .int .i64 r, .slice a n cap]] w fun e w' => e = .returned (.tuple #[.slice none 0 0, .int .i64 1]) ∧ Below w.heap.size w w' := by
  have HF := hide (encIW_facts w t c r (.slice a n cap))
  have CV := hide (fun W => by have h' := validIcmp_walk t c r a n cap W; rw [h] at h'; exact h')
  have CM := hide (fun W => by have h' := messageOf_walk t c r a n cap W; rw [hv] at h'; exact h')
  have HE := hide he
  have K1 := hide k1
  have K2 := hide k2
  clear h hv k1 k2 he
  obtain ⟨⟨_, _, k0, k1, k2, k3⟩, hc0⟩ := HF.out
  clear hc0
  go_enter Tryz.func30, Tryz.ntmps30
  go_wp2_with fail
  generalize hW : encIW w t c r (.slice a n cap) = W at *
  unfold encIW at hW
  rw [hW]
  clear hW
  refine (CV.out _).mono ?_
  rintro e w1 ⟨rfl, hb1⟩
  have HB1 := hide (HF.out.1.next hb1)
  have HC1 := hide (HF.out.2.below hb1 HF.out.2.lt)
  clear k0 k1 k2 k3 HF hb1 CV
  obtain ⟨_, _, k0, k1, k2, k3⟩ := HB1.out
  have hlt := HC1.out.lt
  go_wp2_with fail
  refine (demand_no (w.heap.size + 1) 0 (.slice none 0 0) _ _ HC1.out).mono ?_
  rintro e w2 ⟨rfl, hc2, hg2⟩
  have HC2 := hide hc2
  have HB2 := hide (HB1.out.keep (grown_under hg2 (Nat.le_refl _) (by omega)) (by omega))
  clear k0 k1 k2 k3 hc2 hg2 HB1 HC1
  obtain ⟨_, _, k0, k1, k2, k3⟩ := HB2.out
  go_wp2_with fail
  refine (demand_err (w.heap.size + 1) 0 (.slice none 0 0) 1 _ _ _ HC2.out).mono ?_
  rintro e w3 ⟨rfl, hw3⟩
  rw [hw3]
  clear hw3
  go_wp2_with fail
  refine (CM.out _).mono ?_
  rintro e w3 ⟨rfl, hb3⟩
  have HB3 := hide (HB2.out.next hb3)
  have HC3 := hide (HC2.out.below hb3 HC2.out.lt)
  clear k0 k1 k2 k3 HB2 HC2 hb3 CM
  go_wp2_with fail
  refine (K1.out _).mono ?_
  rintro e w4 ⟨rfl, hb4⟩
  have HB4 := hide (HB3.out.next hb4)
  have HC4 := hide (HC3.out.below hb4 HC3.out.lt)
  clear HB3 HC3 hb4 K1
  go_wp2_with fail
  refine (makeRoom_err (w.heap.size + 1) 0 _ 1 _ _ HC4.out).mono ?_
  rintro e w5 ⟨rfl, hw5⟩
  rw [hw5]
  clear hw5
  go_wp2_with fail
  refine (K2.out _ _ _ HC4.out).mono ?_
  rintro e w6 ⟨rfl, hb6⟩
  have HB6 := hide (HB4.out.next hb6).1
  have HC6 := hide (HC4.out.below hb6 HC4.out.lt)
  clear HB4 HC4 hb6 K2
  obtain ⟨c0, c1, c2, cf⟩ := HC6.out.cells
  have HC7 := hide (Cur.drew (w := w6) HC6.out)
  have HB7 := hide (HB6.out.drew)
  have HE7 := hide (HE.out.below HB7.out (Nat.le_refl _))
  have CA := hide (ansB_err none 0 0 1 (by decide) _ HE7.out)
  clear HE HE7 HB6 HC6 c0 c1 c2 cf
  go_wp2_with fail
  go_region_held3 (fun w' => w'.cell? ⟨w.heap.size + 1, 0, none⟩ = some (.slice none 0 0) ∧ w'.cell? ⟨w.heap.size + 1, 2, none⟩ = some (wErr 1)) (first | with_reducible assumption | exact ⟨HC7.out.cells.1, HC7.out.cells.2.2.1⟩ | exact ⟨(HC7.out.below hb8 HC7.out.lt).cells.1, (HC7.out.below hb8 HC7.out.lt).cells.2.2.1⟩)
    ((go_at_call 39; refine CA.out.mono ?_; rintro e w8 ⟨rfl, hb8⟩))
  all_goals
    have HB8 := hide (HB7.out.trans (hb8.mono HB7.out.size))
    clear hb8
    go_wp2_with fail
    go_ret2
    exact ⟨rfl, HB8.out⟩
set_option maxHeartbeats 4000000 in
theorem implEncI_size (t c r : Int) (a : Option Addr) (n cap : Nat) (w : World) (h : icOK t c r = true) (hn : 65000 < n) (hm : n ≤ 1048576) (he : ErrT w)
    (T F1 F2 : Nat) (v r1 r2 : Value) (hv : msgV t c r (.slice a n cap) = .iface T v)
    (h1 : ∀ W, (Go.method 283 T v "loop.example/g00003/impl.size").run Tryz.prog W = .ok (F1, r1) W)
    (h2 : ∀ W, (Go.method 283 T v "loop.example/g00003/impl.put").run Tryz.prog W = .ok (F2, r2) W)
    (q1 : ∀ (args : Array Value) (W : World), (callFunc F1 args).run Tryz.prog W = .ok (.enter F1 args) W)
    (q2 : ∀ (args : Array Value) (W : World), (callFunc F2 args).run Tryz.prog W = .ok (.enter F2 args) W)
    (k1 : ∀ W, Calls Tryz.prog F1 #[r1] W fun e w' => e = .returned (.int .i64 ((8 + n : Nat) : Int)) ∧ Below W.heap.size W w')
    (k2 : ∀ (g : Nat) (q : Int) (W : World), Cur W g (.slice none 0 0) 0 (wErr q) →
      Calls Tryz.prog F2 #[r2, .pointer (some ⟨g, 0, none⟩)] W fun e w' => e = .returned (.tuple #[]) ∧ Below W.heap.size W w') :
    Calls Tryz.prog 30 #[.agg #[.int .i64 t, .int .i64 c, .int .i64 r, .slice a n cap]] w fun e w' => e = .returned (.tuple #[.slice none 0 0, .int .i64 7]) ∧ Below w.heap.size w w' := by
  have HF := hide (encIW_facts w t c r (.slice a n cap))
  have CV := hide (fun W => by have h' := validIcmp_walk t c r a n cap W; rw [h] at h'; exact h')
  have CM := hide (fun W => by have h' := messageOf_walk t c r a n cap W; rw [hv] at h'; exact h')
  have HE := hide he
  have K1 := hide k1
  have K2 := hide k2
  have hn' : ¬ (n : Int) ≤ 65000 := by omega
  clear h hv k1 k2 he hn
  obtain ⟨⟨_, _, k0, k1, k2, k3⟩, hc0⟩ := HF.out
  clear hc0
  go_enter Tryz.func30, Tryz.ntmps30
  go_wp2_with fail
  generalize hW : encIW w t c r (.slice a n cap) = W at *
  unfold encIW at hW
  rw [hW]
  clear hW
  refine (CV.out _).mono ?_
  rintro e w1 ⟨rfl, hb1⟩
  have HB1 := hide (HF.out.1.next hb1)
  have HC1 := hide (HF.out.2.below hb1 HF.out.2.lt)
  clear k0 k1 k2 k3 HF hb1 CV
  obtain ⟨_, _, k0, k1, k2, k3⟩ := HB1.out
  have hlt := HC1.out.lt
  go_wp2_with fail
  refine (demand_yes (w.heap.size + 1) 0 (.slice none 0 0) _ _ HC1.out).mono ?_
  rintro e w2 ⟨rfl, hw2⟩
  rw [hw2]
  clear hw2
  go_wp2_with fail
  rw [decide_eq_false (Int.not_le.2 hn')]
  refine (demand_no (w.heap.size + 1) 0 (.slice none 0 0) _ _ HC1.out).mono ?_
  rintro e w2 ⟨rfl, hc2, hg2⟩
  have HC2 := hide hc2
  have HB2 := hide (HB1.out.keep (grown_under hg2 (Nat.le_refl _) (by omega)) (by omega))
  clear k0 k1 k2 k3 hc2 hg2 HB1 HC1
  obtain ⟨_, _, k0, k1, k2, k3⟩ := HB2.out
  go_wp2_with fail
  refine (CM.out _).mono ?_
  rintro e w3 ⟨rfl, hb3⟩
  have HB3 := hide (HB2.out.next hb3)
  have HC3 := hide (HC2.out.below hb3 HC2.out.lt)
  clear k0 k1 k2 k3 HB2 HC2 hb3 CM
  go_wp2_with fail
  refine (K1.out _).mono ?_
  rintro e w4 ⟨rfl, hb4⟩
  have HB4 := hide (HB3.out.next hb4)
  have HC4 := hide (HC3.out.below hb4 HC3.out.lt)
  clear HB3 HC3 hb4 K1
  go_wp2_with fail
  refine (makeRoom_err (w.heap.size + 1) 0 _ 7 _ _ HC4.out).mono ?_
  rintro e w5 ⟨rfl, hw5⟩
  rw [hw5]
  clear hw5
  go_wp2_with fail
  refine (K2.out _ _ _ HC4.out).mono ?_
  rintro e w6 ⟨rfl, hb6⟩
  have HB6 := hide (HB4.out.next hb6).1
  have HC6 := hide (HC4.out.below hb6 HC4.out.lt)
  clear HB4 HC4 hb6 K2
  obtain ⟨c0, c1, c2, cf⟩ := HC6.out.cells
  have HC7 := hide (Cur.drew (w := w6) HC6.out)
  have HB7 := hide (HB6.out.drew)
  have HE7 := hide (HE.out.below HB7.out (Nat.le_refl _))
  have CA := hide (ansB_err none 0 0 7 (by decide) _ HE7.out)
  clear HE HE7 HB6 HC6 c0 c1 c2 cf
  go_wp2_with fail
  go_region_held3 (fun w' => w'.cell? ⟨w.heap.size + 1, 0, none⟩ = some (.slice none 0 0) ∧ w'.cell? ⟨w.heap.size + 1, 2, none⟩ = some (wErr 7)) (first | with_reducible assumption | exact ⟨HC7.out.cells.1, HC7.out.cells.2.2.1⟩ | exact ⟨(HC7.out.below hb8 HC7.out.lt).cells.1, (HC7.out.below hb8 HC7.out.lt).cells.2.2.1⟩)
    ((go_at_call 39; refine CA.out.mono ?_; rintro e w8 ⟨rfl, hb8⟩))
  all_goals
    have HB8 := hide (HB7.out.trans (hb8.mono HB7.out.size))
    clear hb8
    go_wp2_with fail
    go_ret2
    exact ⟨rfl, HB8.out⟩
set_option maxRecDepth 100000
theorem mt_size_echo (c r : Int) (a : Option Addr) (n cap : Nat) (W : World) : (Go.method 283 101 (.agg #[.int .i64 c, .int .i64 r, .slice a n cap]) "loop.example/g00003/impl.size").run Tryz.prog W = .ok (111, .agg #[.int .i64 c, .int .i64 r, .slice a n cap]) W := by kernel_rfl
theorem mt_put_echo (c r : Int) (a : Option Addr) (n cap : Nat) (W : World) : (Go.method 283 101 (.agg #[.int .i64 c, .int .i64 r, .slice a n cap]) "loop.example/g00003/impl.put").run Tryz.prog W = .ok (112, .agg #[.int .i64 c, .int .i64 r, .slice a n cap]) W := by kernel_rfl
theorem ent_echo (args : Array Value) (W : World) : (callFunc 112 args).run Tryz.prog W = .ok (.enter 112 args) W := by kernel_rfl
set_option maxHeartbeats 2000000 in
theorem put_echo_ok (c r : Int) (a : Option Addr) (n cap : Nat) (z : List Int) (hn : 8 + n ≤ 1048576) (hz : z.length = n) (g G : Nat) (w : World) (hc : Cur w g (.slice (some ⟨G, 0, none⟩) (8 + n) (8 + n)) 0 .nilIface) (hr : RowB w G (List.replicate (8 + n) 0)) (hg : g < G) (ha : Arr w a z) (hag : ∀ j, j < z.length → ∃ b off, a = some ⟨b, off, none⟩ ∧ b < g) :
    Calls Tryz.prog 112 #[.agg #[.int .i64 c, .int .i64 r, .slice a n cap], .pointer (some ⟨g, 0, none⟩)] w fun e w' => e = .returned (.tuple #[]) ∧ Cur w' g (.slice (some ⟨G, 0, none⟩) (8 + n) (8 + n)) (8 + n) .nilIface ∧ RowB w' G (splice (icP 8 c r z) 2 (putL (csum (icP 8 c r z)) 2)) ∧ Only [g, G] w w' := by
  have HW := hide (BoxV.start w #[.int .i64 c, .int .i64 r, .slice a n cap] 101)
  have CP := hide (putAs_ok g G (8 + n) n cap a 8 c r z _ (hc.below HW.out.1 hc.lt) (hr.below HW.out.1 hr.lt) hg rfl hn hz (ha.below HW.out.1 (Nat.le_refl _)) hag)
  have k0 := HW.out.cell 0 _ rfl
  have k1 := HW.out.cell 1 _ rfl
  have k2 := HW.out.cell 2 _ rfl
  clear hc hr ha hag
  go_enter Tryz.func112, Tryz.ntmps112
  go_wp2_with fail
  refine CP.out.mono ?_
  rintro e w1 ⟨rfl, h1, h2, h3⟩
  have H1 := hide h1
  have H2 := hide h2
  have H3 := hide ((Only.of_below (S := [g, G]) HW.out.1).trans h3)
  clear h1 h2 h3 CP
  go_wp2_with fail
  go_end0
  exact ⟨rfl, H1.out, H2.out, H3.out⟩
set_option maxHeartbeats 2000000 in
theorem put_echo_err (c r : Int) (a : Option Addr) (n cap : Nat) (hn : n ≤ 1048576) (g : Nat) (q : Int) (w : World) (hc : Cur w g (.slice none 0 0) 0 (wErr q)) :
    Calls Tryz.prog 112 #[.agg #[.int .i64 c, .int .i64 r, .slice a n cap], .pointer (some ⟨g, 0, none⟩)] w fun e w' => e = .returned (.tuple #[]) ∧ Below w.heap.size w w' := by
  have HW := hide (BoxV.start w #[.int .i64 c, .int .i64 r, .slice a n cap] 101)
  have CP := hide (putAs_err g n cap a 8 c r q _ (hc.below HW.out.1 hc.lt) hn)
  have k0 := HW.out.cell 0 _ rfl
  have k1 := HW.out.cell 1 _ rfl
  have k2 := HW.out.cell 2 _ rfl
  clear hc
  go_enter Tryz.func112, Tryz.ntmps112
  go_wp2_with fail
  refine CP.out.mono ?_
  rintro e w1 ⟨rfl, h3⟩
  have H3 := hide (HW.out.1.trans (h3.mono HW.out.1.size))
  clear h3 CP
  go_wp2_with fail
  go_end0
  exact ⟨rfl, H3.out⟩
theorem mt_size_echoReply (c r : Int) (a : Option Addr) (n cap : Nat) (W : World) : (Go.method 283 102 (.agg #[.int .i64 c, .int .i64 r, .slice a n cap]) "loop.example/g00003/impl.size").run Tryz.prog W = .ok (111, .agg #[.int .i64 c, .int .i64 r, .slice a n cap]) W := by kernel_rfl
theorem mt_put_echoReply (c r : Int) (a : Option Addr) (n cap : Nat) (W : World) : (Go.method 283 102 (.agg #[.int .i64 c, .int .i64 r, .slice a n cap]) "loop.example/g00003/impl.put").run Tryz.prog W = .ok (114, .agg #[.int .i64 c, .int .i64 r, .slice a n cap]) W := by kernel_rfl
theorem ent_echoReply (args : Array Value) (W : World) : (callFunc 114 args).run Tryz.prog W = .ok (.enter 114 args) W := by kernel_rfl
set_option maxHeartbeats 2000000 in
theorem put_echoReply_ok (c r : Int) (a : Option Addr) (n cap : Nat) (z : List Int) (hn : 8 + n ≤ 1048576) (hz : z.length = n) (g G : Nat) (w : World) (hc : Cur w g (.slice (some ⟨G, 0, none⟩) (8 + n) (8 + n)) 0 .nilIface) (hr : RowB w G (List.replicate (8 + n) 0)) (hg : g < G) (ha : Arr w a z) (hag : ∀ j, j < z.length → ∃ b off, a = some ⟨b, off, none⟩ ∧ b < g) :
    Calls Tryz.prog 114 #[.agg #[.int .i64 c, .int .i64 r, .slice a n cap], .pointer (some ⟨g, 0, none⟩)] w fun e w' => e = .returned (.tuple #[]) ∧ Cur w' g (.slice (some ⟨G, 0, none⟩) (8 + n) (8 + n)) (8 + n) .nilIface ∧ RowB w' G (splice (icP 0 c r z) 2 (putL (csum (icP 0 c r z)) 2)) ∧ Only [g, G] w w' := by
  have HW := hide (BoxV.start w #[.int .i64 c, .int .i64 r, .slice a n cap] 102)
  have CP := hide (putAs_ok g G (8 + n) n cap a 0 c r z _ (hc.below HW.out.1 hc.lt) (hr.below HW.out.1 hr.lt) hg rfl hn hz (ha.below HW.out.1 (Nat.le_refl _)) hag)
  have k0 := HW.out.cell 0 _ rfl
  have k1 := HW.out.cell 1 _ rfl
  have k2 := HW.out.cell 2 _ rfl
  clear hc hr ha hag
  go_enter Tryz.func114, Tryz.ntmps114
  go_wp2_with fail
  refine CP.out.mono ?_
  rintro e w1 ⟨rfl, h1, h2, h3⟩
  have H1 := hide h1
  have H2 := hide h2
  have H3 := hide ((Only.of_below (S := [g, G]) HW.out.1).trans h3)
  clear h1 h2 h3 CP
  go_wp2_with fail
  go_end0
  exact ⟨rfl, H1.out, H2.out, H3.out⟩
set_option maxHeartbeats 2000000 in
theorem put_echoReply_err (c r : Int) (a : Option Addr) (n cap : Nat) (hn : n ≤ 1048576) (g : Nat) (q : Int) (w : World) (hc : Cur w g (.slice none 0 0) 0 (wErr q)) :
    Calls Tryz.prog 114 #[.agg #[.int .i64 c, .int .i64 r, .slice a n cap], .pointer (some ⟨g, 0, none⟩)] w fun e w' => e = .returned (.tuple #[]) ∧ Below w.heap.size w w' := by
  have HW := hide (BoxV.start w #[.int .i64 c, .int .i64 r, .slice a n cap] 102)
  have CP := hide (putAs_err g n cap a 0 c r q _ (hc.below HW.out.1 hc.lt) hn)
  have k0 := HW.out.cell 0 _ rfl
  have k1 := HW.out.cell 1 _ rfl
  have k2 := HW.out.cell 2 _ rfl
  clear hc
  go_enter Tryz.func114, Tryz.ntmps114
  go_wp2_with fail
  refine CP.out.mono ?_
  rintro e w1 ⟨rfl, h3⟩
  have H3 := hide (HW.out.1.trans (h3.mono HW.out.1.size))
  clear h3 CP
  go_wp2_with fail
  go_end0
  exact ⟨rfl, H3.out⟩
theorem mt_size_unreachable (c r : Int) (a : Option Addr) (n cap : Nat) (W : World) : (Go.method 283 103 (.agg #[.int .i64 c, .int .i64 r, .slice a n cap]) "loop.example/g00003/impl.size").run Tryz.prog W = .ok (111, .agg #[.int .i64 c, .int .i64 r, .slice a n cap]) W := by kernel_rfl
theorem mt_put_unreachable (c r : Int) (a : Option Addr) (n cap : Nat) (W : World) : (Go.method 283 103 (.agg #[.int .i64 c, .int .i64 r, .slice a n cap]) "loop.example/g00003/impl.put").run Tryz.prog W = .ok (115, .agg #[.int .i64 c, .int .i64 r, .slice a n cap]) W := by kernel_rfl
theorem ent_unreachable (args : Array Value) (W : World) : (callFunc 115 args).run Tryz.prog W = .ok (.enter 115 args) W := by kernel_rfl
set_option maxHeartbeats 2000000 in
theorem put_unreachable_ok (c r : Int) (a : Option Addr) (n cap : Nat) (z : List Int) (hn : 8 + n ≤ 1048576) (hz : z.length = n) (g G : Nat) (w : World) (hc : Cur w g (.slice (some ⟨G, 0, none⟩) (8 + n) (8 + n)) 0 .nilIface) (hr : RowB w G (List.replicate (8 + n) 0)) (hg : g < G) (ha : Arr w a z) (hag : ∀ j, j < z.length → ∃ b off, a = some ⟨b, off, none⟩ ∧ b < g) :
    Calls Tryz.prog 115 #[.agg #[.int .i64 c, .int .i64 r, .slice a n cap], .pointer (some ⟨g, 0, none⟩)] w fun e w' => e = .returned (.tuple #[]) ∧ Cur w' g (.slice (some ⟨G, 0, none⟩) (8 + n) (8 + n)) (8 + n) .nilIface ∧ RowB w' G (splice (icP 3 c r z) 2 (putL (csum (icP 3 c r z)) 2)) ∧ Only [g, G] w w' := by
  have HW := hide (BoxV.start w #[.int .i64 c, .int .i64 r, .slice a n cap] 103)
  have CP := hide (putAs_ok g G (8 + n) n cap a 3 c r z _ (hc.below HW.out.1 hc.lt) (hr.below HW.out.1 hr.lt) hg rfl hn hz (ha.below HW.out.1 (Nat.le_refl _)) hag)
  have k0 := HW.out.cell 0 _ rfl
  have k1 := HW.out.cell 1 _ rfl
  have k2 := HW.out.cell 2 _ rfl
  clear hc hr ha hag
  go_enter Tryz.func115, Tryz.ntmps115
  go_wp2_with fail
  refine CP.out.mono ?_
  rintro e w1 ⟨rfl, h1, h2, h3⟩
  have H1 := hide h1
  have H2 := hide h2
  have H3 := hide ((Only.of_below (S := [g, G]) HW.out.1).trans h3)
  clear h1 h2 h3 CP
  go_wp2_with fail
  go_end0
  exact ⟨rfl, H1.out, H2.out, H3.out⟩
set_option maxHeartbeats 2000000 in
theorem put_unreachable_err (c r : Int) (a : Option Addr) (n cap : Nat) (hn : n ≤ 1048576) (g : Nat) (q : Int) (w : World) (hc : Cur w g (.slice none 0 0) 0 (wErr q)) :
    Calls Tryz.prog 115 #[.agg #[.int .i64 c, .int .i64 r, .slice a n cap], .pointer (some ⟨g, 0, none⟩)] w fun e w' => e = .returned (.tuple #[]) ∧ Below w.heap.size w w' := by
  have HW := hide (BoxV.start w #[.int .i64 c, .int .i64 r, .slice a n cap] 103)
  have CP := hide (putAs_err g n cap a 3 c r q _ (hc.below HW.out.1 hc.lt) hn)
  have k0 := HW.out.cell 0 _ rfl
  have k1 := HW.out.cell 1 _ rfl
  have k2 := HW.out.cell 2 _ rfl
  clear hc
  go_enter Tryz.func115, Tryz.ntmps115
  go_wp2_with fail
  refine CP.out.mono ?_
  rintro e w1 ⟨rfl, h3⟩
  have H3 := hide (HW.out.1.trans (h3.mono HW.out.1.size))
  clear h3 CP
  go_wp2_with fail
  go_end0
  exact ⟨rfl, H3.out⟩
theorem mt_size_exceeded (c r : Int) (a : Option Addr) (n cap : Nat) (W : World) : (Go.method 283 104 (.agg #[.int .i64 c, .int .i64 r, .slice a n cap]) "loop.example/g00003/impl.size").run Tryz.prog W = .ok (111, .agg #[.int .i64 c, .int .i64 r, .slice a n cap]) W := by kernel_rfl
theorem mt_put_exceeded (c r : Int) (a : Option Addr) (n cap : Nat) (W : World) : (Go.method 283 104 (.agg #[.int .i64 c, .int .i64 r, .slice a n cap]) "loop.example/g00003/impl.put").run Tryz.prog W = .ok (116, .agg #[.int .i64 c, .int .i64 r, .slice a n cap]) W := by kernel_rfl
theorem ent_exceeded (args : Array Value) (W : World) : (callFunc 116 args).run Tryz.prog W = .ok (.enter 116 args) W := by kernel_rfl
set_option maxHeartbeats 2000000 in
theorem put_exceeded_ok (c r : Int) (a : Option Addr) (n cap : Nat) (z : List Int) (hn : 8 + n ≤ 1048576) (hz : z.length = n) (g G : Nat) (w : World) (hc : Cur w g (.slice (some ⟨G, 0, none⟩) (8 + n) (8 + n)) 0 .nilIface) (hr : RowB w G (List.replicate (8 + n) 0)) (hg : g < G) (ha : Arr w a z) (hag : ∀ j, j < z.length → ∃ b off, a = some ⟨b, off, none⟩ ∧ b < g) :
    Calls Tryz.prog 116 #[.agg #[.int .i64 c, .int .i64 r, .slice a n cap], .pointer (some ⟨g, 0, none⟩)] w fun e w' => e = .returned (.tuple #[]) ∧ Cur w' g (.slice (some ⟨G, 0, none⟩) (8 + n) (8 + n)) (8 + n) .nilIface ∧ RowB w' G (splice (icP 11 c r z) 2 (putL (csum (icP 11 c r z)) 2)) ∧ Only [g, G] w w' := by
  have HW := hide (BoxV.start w #[.int .i64 c, .int .i64 r, .slice a n cap] 104)
  have CP := hide (putAs_ok g G (8 + n) n cap a 11 c r z _ (hc.below HW.out.1 hc.lt) (hr.below HW.out.1 hr.lt) hg rfl hn hz (ha.below HW.out.1 (Nat.le_refl _)) hag)
  have k0 := HW.out.cell 0 _ rfl
  have k1 := HW.out.cell 1 _ rfl
  have k2 := HW.out.cell 2 _ rfl
  clear hc hr ha hag
  go_enter Tryz.func116, Tryz.ntmps116
  go_wp2_with fail
  refine CP.out.mono ?_
  rintro e w1 ⟨rfl, h1, h2, h3⟩
  have H1 := hide h1
  have H2 := hide h2
  have H3 := hide ((Only.of_below (S := [g, G]) HW.out.1).trans h3)
  clear h1 h2 h3 CP
  go_wp2_with fail
  go_end0
  exact ⟨rfl, H1.out, H2.out, H3.out⟩
set_option maxHeartbeats 2000000 in
theorem put_exceeded_err (c r : Int) (a : Option Addr) (n cap : Nat) (hn : n ≤ 1048576) (g : Nat) (q : Int) (w : World) (hc : Cur w g (.slice none 0 0) 0 (wErr q)) :
    Calls Tryz.prog 116 #[.agg #[.int .i64 c, .int .i64 r, .slice a n cap], .pointer (some ⟨g, 0, none⟩)] w fun e w' => e = .returned (.tuple #[]) ∧ Below w.heap.size w w' := by
  have HW := hide (BoxV.start w #[.int .i64 c, .int .i64 r, .slice a n cap] 104)
  have CP := hide (putAs_err g n cap a 11 c r q _ (hc.below HW.out.1 hc.lt) hn)
  have k0 := HW.out.cell 0 _ rfl
  have k1 := HW.out.cell 1 _ rfl
  have k2 := HW.out.cell 2 _ rfl
  clear hc
  go_enter Tryz.func116, Tryz.ntmps116
  go_wp2_with fail
  refine CP.out.mono ?_
  rintro e w1 ⟨rfl, h3⟩
  have H3 := hide (HW.out.1.trans (h3.mono HW.out.1.size))
  clear h3 CP
  go_wp2_with fail
  go_end0
  exact ⟨rfl, H3.out⟩
theorem mt_size_foreign (t : Int) (c r : Int) (a : Option Addr) (n cap : Nat) (W : World) : (Go.method 283 106 (.agg #[.int .i64 t, .int .i64 c, .int .i64 r, .slice a n cap]) "loop.example/g00003/impl.size").run Tryz.prog W = .ok (111, .agg #[.int .i64 c, .int .i64 r, .slice a n cap]) W := by kernel_rfl
theorem mt_put_foreign (t : Int) (c r : Int) (a : Option Addr) (n cap : Nat) (W : World) : (Go.method 283 106 (.agg #[.int .i64 t, .int .i64 c, .int .i64 r, .slice a n cap]) "loop.example/g00003/impl.put").run Tryz.prog W = .ok (117, .agg #[.int .i64 t, .int .i64 c, .int .i64 r, .slice a n cap]) W := by kernel_rfl
theorem ent_foreign (args : Array Value) (W : World) : (callFunc 117 args).run Tryz.prog W = .ok (.enter 117 args) W := by kernel_rfl
set_option maxHeartbeats 2000000 in
theorem put_foreign_ok (t : Int) (c r : Int) (a : Option Addr) (n cap : Nat) (z : List Int) (hn : 8 + n ≤ 1048576) (hz : z.length = n) (g G : Nat) (w : World) (hc : Cur w g (.slice (some ⟨G, 0, none⟩) (8 + n) (8 + n)) 0 .nilIface) (hr : RowB w G (List.replicate (8 + n) 0)) (hg : g < G) (ha : Arr w a z) (hag : ∀ j, j < z.length → ∃ b off, a = some ⟨b, off, none⟩ ∧ b < g) :
    Calls Tryz.prog 117 #[.agg #[.int .i64 t, .int .i64 c, .int .i64 r, .slice a n cap], .pointer (some ⟨g, 0, none⟩)] w fun e w' => e = .returned (.tuple #[]) ∧ Cur w' g (.slice (some ⟨G, 0, none⟩) (8 + n) (8 + n)) (8 + n) .nilIface ∧ RowB w' G (splice (icP t c r z) 2 (putL (csum (icP t c r z)) 2)) ∧ Only [g, G] w w' := by
  have HW := hide (BoxV.start w #[.int .i64 t, .int .i64 c, .int .i64 r, .slice a n cap] 106)
  have CP := hide (putAs_ok g G (8 + n) n cap a t c r z _ (hc.below HW.out.1 hc.lt) (hr.below HW.out.1 hr.lt) hg rfl hn hz (ha.below HW.out.1 (Nat.le_refl _)) hag)
  have k0 := HW.out.cell 0 _ rfl
  have k1 := HW.out.cell 1 _ rfl
  have k2 := HW.out.cell 2 _ rfl
  have k3 := HW.out.cell 3 _ rfl
  clear hc hr ha hag
  go_enter Tryz.func117, Tryz.ntmps117
  go_wp2_with fail
  refine CP.out.mono ?_
  rintro e w1 ⟨rfl, h1, h2, h3⟩
  have H1 := hide h1
  have H2 := hide h2
  have H3 := hide ((Only.of_below (S := [g, G]) HW.out.1).trans h3)
  clear h1 h2 h3 CP
  go_wp2_with fail
  go_end0
  exact ⟨rfl, H1.out, H2.out, H3.out⟩
set_option maxHeartbeats 2000000 in
theorem put_foreign_err (t : Int) (c r : Int) (a : Option Addr) (n cap : Nat) (hn : n ≤ 1048576) (g : Nat) (q : Int) (w : World) (hc : Cur w g (.slice none 0 0) 0 (wErr q)) :
    Calls Tryz.prog 117 #[.agg #[.int .i64 t, .int .i64 c, .int .i64 r, .slice a n cap], .pointer (some ⟨g, 0, none⟩)] w fun e w' => e = .returned (.tuple #[]) ∧ Below w.heap.size w w' := by
  have HW := hide (BoxV.start w #[.int .i64 t, .int .i64 c, .int .i64 r, .slice a n cap] 106)
  have CP := hide (putAs_err g n cap a t c r q _ (hc.below HW.out.1 hc.lt) hn)
  have k0 := HW.out.cell 0 _ rfl
  have k1 := HW.out.cell 1 _ rfl
  have k2 := HW.out.cell 2 _ rfl
  have k3 := HW.out.cell 3 _ rfl
  clear hc
  go_enter Tryz.func117, Tryz.ntmps117
  go_wp2_with fail
  refine CP.out.mono ?_
  rintro e w1 ⟨rfl, h3⟩
  have H3 := hide (HW.out.1.trans (h3.mono HW.out.1.size))
  clear h3 CP
  go_wp2_with fail
  go_end0
  exact ⟨rfl, H3.out⟩
theorem ent_size (args : Array Value) (W : World) : (callFunc 111 args).run Tryz.prog W = .ok (.enter 111 args) W := by kernel_rfl
set_option maxRecDepth 100000
theorem implEncI_ok' (t c r : Int) (a : Option Addr) (n cap : Nat) (z : List Int) (w : World) (h : icOK t c r = true) (hn : n ≤ 65000) (hz : z.length = n) (ha : Arr w a z) (L : List Int) (hL : splice (icP t c r z) 2 (putL (csum (icP t c r z)) 2) = L) :
    Calls Tryz.prog 30 #[.agg #[.int .i64 t, .int .i64 c, .int .i64 r, .slice a n cap]] w fun e w' => ∃ v : Value, e = .returned (.tuple #[v, .int .i64 0]) ∧ OwnB w' w.heap.size v L ∧ Below w.heap.size w w' := by
  by_cases h8 : t = 8
  · subst h8
    exact implEncI_ok 8 c r a n cap z w h hn hz ha 101 111 112 (.agg #[.int .i64 c, .int .i64 r, .slice a n cap]) (.agg #[.int .i64 c, .int .i64 r, .slice a n cap]) (.agg #[.int .i64 c, .int .i64 r, .slice a n cap]) rfl (mt_size_echo c r a n cap) (mt_put_echo c r a n cap) ent_size ent_echo (fun W => saidSize_walk c r a n cap W (by omega)) (put_echo_ok c r a n cap z (by omega) hz) L hL
  by_cases h0 : t = 0
  · subst h0
    exact implEncI_ok 0 c r a n cap z w h hn hz ha 102 111 114 (.agg #[.int .i64 c, .int .i64 r, .slice a n cap]) (.agg #[.int .i64 c, .int .i64 r, .slice a n cap]) (.agg #[.int .i64 c, .int .i64 r, .slice a n cap]) rfl (mt_size_echoReply c r a n cap) (mt_put_echoReply c r a n cap) ent_size ent_echoReply (fun W => saidSize_walk c r a n cap W (by omega)) (put_echoReply_ok c r a n cap z (by omega) hz) L hL
  by_cases h3 : t = 3
  · subst h3
    exact implEncI_ok 3 c r a n cap z w h hn hz ha 103 111 115 (.agg #[.int .i64 c, .int .i64 r, .slice a n cap]) (.agg #[.int .i64 c, .int .i64 r, .slice a n cap]) (.agg #[.int .i64 c, .int .i64 r, .slice a n cap]) rfl (mt_size_unreachable c r a n cap) (mt_put_unreachable c r a n cap) ent_size ent_unreachable (fun W => saidSize_walk c r a n cap W (by omega)) (put_unreachable_ok c r a n cap z (by omega) hz) L hL
  by_cases h11 : t = 11
  · subst h11
    exact implEncI_ok 11 c r a n cap z w h hn hz ha 104 111 116 (.agg #[.int .i64 c, .int .i64 r, .slice a n cap]) (.agg #[.int .i64 c, .int .i64 r, .slice a n cap]) (.agg #[.int .i64 c, .int .i64 r, .slice a n cap]) rfl (mt_size_exceeded c r a n cap) (mt_put_exceeded c r a n cap) ent_size ent_exceeded (fun W => saidSize_walk c r a n cap W (by omega)) (put_exceeded_ok c r a n cap z (by omega) hz) L hL
  exact implEncI_ok t c r a n cap z w h hn hz ha 106 111 117 (.agg #[.int .i64 t, .int .i64 c, .int .i64 r, .slice a n cap]) (.agg #[.int .i64 c, .int .i64 r, .slice a n cap]) (.agg #[.int .i64 t, .int .i64 c, .int .i64 r, .slice a n cap]) (by unfold msgV; rw [if_neg h8, if_neg h0, if_neg h3, if_neg h11]) (mt_size_foreign t c r a n cap) (mt_put_foreign t c r a n cap) ent_size ent_foreign (fun W => saidSize_walk c r a n cap W (by omega)) (put_foreign_ok t c r a n cap z (by omega) hz) L hL
theorem implEncI_form' (t c r : Int) (a : Option Addr) (n cap : Nat) (w : World) (h : icOK t c r = false) (hm : n ≤ 1048576) (he : ErrT w) :
    Calls Tryz.prog 30 #[.agg #[.int .i64 t, .int .i64 c, .int .i64 r, .slice a n cap]] w fun e w' => e = .returned (.tuple #[.slice none 0 0, .int .i64 1]) ∧ Below w.heap.size w w' := by
  by_cases h8 : t = 8
  · subst h8
    exact implEncI_form 8 c r a n cap w h hm he 101 111 112 (.agg #[.int .i64 c, .int .i64 r, .slice a n cap]) (.agg #[.int .i64 c, .int .i64 r, .slice a n cap]) (.agg #[.int .i64 c, .int .i64 r, .slice a n cap]) rfl (mt_size_echo c r a n cap) (mt_put_echo c r a n cap) ent_size ent_echo (fun W => saidSize_walk c r a n cap W (by omega)) (put_echo_err c r a n cap hm) 
  by_cases h0 : t = 0
  · subst h0
    exact implEncI_form 0 c r a n cap w h hm he 102 111 114 (.agg #[.int .i64 c, .int .i64 r, .slice a n cap]) (.agg #[.int .i64 c, .int .i64 r, .slice a n cap]) (.agg #[.int .i64 c, .int .i64 r, .slice a n cap]) rfl (mt_size_echoReply c r a n cap) (mt_put_echoReply c r a n cap) ent_size ent_echoReply (fun W => saidSize_walk c r a n cap W (by omega)) (put_echoReply_err c r a n cap hm) 
  by_cases h3 : t = 3
  · subst h3
    exact implEncI_form 3 c r a n cap w h hm he 103 111 115 (.agg #[.int .i64 c, .int .i64 r, .slice a n cap]) (.agg #[.int .i64 c, .int .i64 r, .slice a n cap]) (.agg #[.int .i64 c, .int .i64 r, .slice a n cap]) rfl (mt_size_unreachable c r a n cap) (mt_put_unreachable c r a n cap) ent_size ent_unreachable (fun W => saidSize_walk c r a n cap W (by omega)) (put_unreachable_err c r a n cap hm) 
  by_cases h11 : t = 11
  · subst h11
    exact implEncI_form 11 c r a n cap w h hm he 104 111 116 (.agg #[.int .i64 c, .int .i64 r, .slice a n cap]) (.agg #[.int .i64 c, .int .i64 r, .slice a n cap]) (.agg #[.int .i64 c, .int .i64 r, .slice a n cap]) rfl (mt_size_exceeded c r a n cap) (mt_put_exceeded c r a n cap) ent_size ent_exceeded (fun W => saidSize_walk c r a n cap W (by omega)) (put_exceeded_err c r a n cap hm) 
  exact implEncI_form t c r a n cap w h hm he 106 111 117 (.agg #[.int .i64 t, .int .i64 c, .int .i64 r, .slice a n cap]) (.agg #[.int .i64 c, .int .i64 r, .slice a n cap]) (.agg #[.int .i64 t, .int .i64 c, .int .i64 r, .slice a n cap]) (by unfold msgV; rw [if_neg h8, if_neg h0, if_neg h3, if_neg h11]) (mt_size_foreign t c r a n cap) (mt_put_foreign t c r a n cap) ent_size ent_foreign (fun W => saidSize_walk c r a n cap W (by omega)) (put_foreign_err t c r a n cap hm) 
theorem implEncI_size' (t c r : Int) (a : Option Addr) (n cap : Nat) (w : World) (h : icOK t c r = true) (hn : 65000 < n) (hm : n ≤ 1048576) (he : ErrT w) :
    Calls Tryz.prog 30 #[.agg #[.int .i64 t, .int .i64 c, .int .i64 r, .slice a n cap]] w fun e w' => e = .returned (.tuple #[.slice none 0 0, .int .i64 7]) ∧ Below w.heap.size w w' := by
  by_cases h8 : t = 8
  · subst h8
    exact implEncI_size 8 c r a n cap w h hn hm he 101 111 112 (.agg #[.int .i64 c, .int .i64 r, .slice a n cap]) (.agg #[.int .i64 c, .int .i64 r, .slice a n cap]) (.agg #[.int .i64 c, .int .i64 r, .slice a n cap]) rfl (mt_size_echo c r a n cap) (mt_put_echo c r a n cap) ent_size ent_echo (fun W => saidSize_walk c r a n cap W (by omega)) (put_echo_err c r a n cap hm) 
  by_cases h0 : t = 0
  · subst h0
    exact implEncI_size 0 c r a n cap w h hn hm he 102 111 114 (.agg #[.int .i64 c, .int .i64 r, .slice a n cap]) (.agg #[.int .i64 c, .int .i64 r, .slice a n cap]) (.agg #[.int .i64 c, .int .i64 r, .slice a n cap]) rfl (mt_size_echoReply c r a n cap) (mt_put_echoReply c r a n cap) ent_size ent_echoReply (fun W => saidSize_walk c r a n cap W (by omega)) (put_echoReply_err c r a n cap hm) 
  by_cases h3 : t = 3
  · subst h3
    exact implEncI_size 3 c r a n cap w h hn hm he 103 111 115 (.agg #[.int .i64 c, .int .i64 r, .slice a n cap]) (.agg #[.int .i64 c, .int .i64 r, .slice a n cap]) (.agg #[.int .i64 c, .int .i64 r, .slice a n cap]) rfl (mt_size_unreachable c r a n cap) (mt_put_unreachable c r a n cap) ent_size ent_unreachable (fun W => saidSize_walk c r a n cap W (by omega)) (put_unreachable_err c r a n cap hm) 
  by_cases h11 : t = 11
  · subst h11
    exact implEncI_size 11 c r a n cap w h hn hm he 104 111 116 (.agg #[.int .i64 c, .int .i64 r, .slice a n cap]) (.agg #[.int .i64 c, .int .i64 r, .slice a n cap]) (.agg #[.int .i64 c, .int .i64 r, .slice a n cap]) rfl (mt_size_exceeded c r a n cap) (mt_put_exceeded c r a n cap) ent_size ent_exceeded (fun W => saidSize_walk c r a n cap W (by omega)) (put_exceeded_err c r a n cap hm) 
  exact implEncI_size t c r a n cap w h hn hm he 106 111 117 (.agg #[.int .i64 t, .int .i64 c, .int .i64 r, .slice a n cap]) (.agg #[.int .i64 c, .int .i64 r, .slice a n cap]) (.agg #[.int .i64 t, .int .i64 c, .int .i64 r, .slice a n cap]) (by unfold msgV; rw [if_neg h8, if_neg h0, if_neg h3, if_neg h11]) (mt_size_foreign t c r a n cap) (mt_put_foreign t c r a n cap) ent_size ent_foreign (fun W => saidSize_walk c r a n cap W (by omega)) (put_foreign_err t c r a n cap hm) 
theorem splice_sum (xs : List Int) (s : Int) (h : 4 ≤ xs.length) (h0 : 0 ≤ s) (h1 : s ≤ 65535) : splice xs 2 (putL s 2) = (xs.set 2 (s / 256)).set 3 (s % 256) := by
  have e2 : putL s 2 = [s / 256, s % 256] := by
    unfold putL byteOf
    simp [List.range_succ]
    omega
  rw [e2]
  have q1 := splice_set xs 3 [] (s % 256) (by omega)
  have q2 := splice_set xs 2 [s % 256] (s / 256) (by omega)
  have e : splice xs (3 + 1) [] = xs := by unfold splice; simp
  rw [e] at q1
  rw [← q2, ← q1, List.set_comm _ _ (by omega)]
theorem putL_1 (v : Int) (h0 : 0 ≤ v) (h1 : v ≤ 255) : putL v 1 = [v] := by
  unfold putL byteOf
  simp
  omega
theorem icP_icH (t c r : Int) (z : List Int) (h : icOK t c r = true) : icP t c r z = icH t c r z := by
  obtain ⟨h0, h1, h2⟩ := icOK_parts h
  have a := inB_iff.1 h0
  have b := inB_iff.1 h1
  unfold icP icH
  rw [putL_1 t a.1 a.2, putL_1 c b.1 b.2]
  rfl
/-- EncodeIcmp of the program. -/
theorem implEncIcmp (t c r : Int) (z : List Int) : EncIcmpP 30 ErrT t c r z (icL t c r z) (icC t c r z.length) := by
  intro a n cap W hn ha _ hm hp
  subst hn
  have bad : ∀ q : Int, icC t c r z.length = q → ¬ q = 0 → ∀ e w', e = Ending.returned (.tuple #[.slice none 0 0, .int .i64 q]) ∧ Below W.heap.size W w' → ∃ v : Value, e = .returned (.tuple #[v, .int .i64 (icC t c r z.length)]) ∧ OwnB w' W.heap.size v (icL t c r z) ∧ Below W.heap.size W w' := by
    rintro q hq h0 e w' ⟨rfl, hb⟩
    refine ⟨_, by rw [hq], ?_, hb⟩
    unfold icL
    rw [hq, if_neg h0]
    exact ⟨World.ownsRow_nil _ _ _ _, by simp⟩
  cases h : icOK t c r with
  | false => exact (implEncI_form' t c r a _ cap W h hm hp).mono (bad 1 (by unfold icC; rw [h]; rfl) (by decide))
  | true =>
    by_cases hs : 65000 < z.length
    · exact (implEncI_size' t c r a _ cap W h hs hm hp).mono (bad 7 (by unfold icC; rw [h, if_pos rfl, if_pos hs]) (by decide))
    · have hC : icC t c r z.length = 0 := by unfold icC; rw [h, if_pos rfl, if_neg hs]
      refine (implEncI_ok' t c r a _ cap z W h (by omega) rfl ha _ rfl).mono ?_
      rintro e w' ⟨v, rfl, hO, hb⟩
      refine ⟨v, by rw [hC], ?_, hb⟩
      have hs2 := csum_bd _ (icP_bd t c r z ha.1)
      rw [splice_sum _ _ (by rw [icP_len]; omega) hs2.1 hs2.2, icP_icH t c r z h] at hO
      unfold icL
      rw [hC, if_pos rfl]
      exact hO
end Go.Proofs.YthbkhfiadkookaaGreatDoor
