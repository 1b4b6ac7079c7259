/-
Contracts of functions of this seat.
-/
import Derived.Test.YtakoagfeiolkjabDoorRows
import Derived.WalkKit
import Derived.ProofKit
import Derived.OpenShut
import Derived.Test.YtakoagfeiolkjabDoorIpk
namespace Go.Proofs.YtakoagfeiolkjabDoor
open Go.ChangeShapes Go.WideShapes Go.ChangeAt Go.RowKit
set_option linter.unusedVariables false
set_option maxRecDepth 100000
/-- The sum of numbers of two bytes with its carries added at the low end. -/
def fold (s : Int) : Int := if s = 0 then 0 else (s - 1) % 65535 + 1
theorem fold_small (s : Int) (h0 : 0 ≤ s) (h1 : s ≤ 65535) : fold s = s := by unfold fold; split <;> omega
theorem fold_bd (s : Int) (h0 : 0 ≤ s) : 0 ≤ fold s ∧ fold s ≤ 65535 := by unfold fold; split <;> omega
theorem fold_shift (s : Int) (h : 65535 < s) : fold (s / 65536 + s % 65536) = fold s := by
  unfold fold; rw [if_neg (by omega), if_neg (by omega)]; omega
theorem fold_sub (s : Int) (h : 65535 < s) : fold (s - 65535) = fold s := by
  unfold fold; rw [if_neg (by omega), if_neg (by omega)]; omega

attribute [local go_sem] and_65535_u64 signed_u16 wrap_u16 not_u16
theorem fold_walk (s : Int) (h0 : 0 ≤ s) (h1 : s ≤ 18446744073709551615) (w : World) :
    Calls Tryd.prog 93 #[.int .u64 s] w fun e w' => e = .returned (.int .i64 (65535 - fold s)) ∧ w' = w := by
  go_enter Tryd.func93, Tryd.ntmps93
  go_wp2
  go_loop [0] (fun t => ∃ s' : Int, 0 ≤ s' ∧ s' ≤ 18446744073709551615 ∧ Hid (fold s' = fold s) ∧ t = .int .u64 s') (fun t => (intOf t).toNat)
  case atStart => exact ⟨s, h0, h1, hide rfl, rfl⟩
  case round =>
    obtain ⟨s', g0, g1, H, rfl⟩ := hrel
    by_cases hlt : 65535 < s'
    · go_wp2
      go_round
      case rel => exact ⟨s' / 65536 + s' % 65536, by omega, by omega, hide ((fold_shift s' hlt).trans H.out), by go_num⟩
      case measure => simp [intOf]; omega
    · go_wp2
      go_ret
      refine ⟨ret_int ?_, rfl⟩
      rw [← H.out, fold_small s' g0 (by omega)]
      omega

/-- The sum of the first k numbers of two bytes; behind the last byte stand zeros. -/
def psum (zs : List Int) : Nat → Int
  | 0 => 0
  | k + 1 => psum zs k + (zs.getD (2 * k) 0 * 256 + zs.getD (2 * k + 1) 0)
theorem psum_bd {zs : List Int} (h : ∀ z ∈ zs, 0 ≤ z ∧ z ≤ 255) : ∀ k : Nat, 0 ≤ psum zs k ∧ psum zs k ≤ 65535 * (k : Int)
  | 0 => by simp [psum]
  | k + 1 => by
    have h1 := psum_bd h k
    have h2 := getD_bd h (2 * k)
    have h3 := getD_bd h (2 * k + 1)
    simp only [psum]; omega
theorem psum_odd {zs : List Int} {n : Nat} (hn : zs.length = n) (ho : n % 2 = 1) : psum zs ((n + 1) / 2) = psum zs (n / 2) + zs.getD (n - 1) 0 * 256 := by
  have e : (n + 1) / 2 = n / 2 + 1 := by omega
  rw [e, psum, show 2 * (n / 2) = n - 1 by omega]
  have : zs.getD (n - 1 + 1) 0 = 0 := by rw [List.getD_eq_getElem?_getD, List.getElem?_eq_none (by omega)]; rfl
  rw [this]; omega
theorem fold_add (S x : Int) (hS : 0 ≤ S) (h0 : 0 ≤ x) (h1 : x ≤ 65535) : fold (S + x) = if 65535 < fold S + x then fold S + x - 65535 else fold S + x := by
  unfold fold
  by_cases hs : S = 0
  · subst hs
    by_cases hx : x = 0
    · subst hx; simp
    · rw [if_neg (by omega)]; simp; split <;> omega
  · rw [if_neg (by omega), if_neg hs]
    split <;> omega

theorem Arr.at {w : World} {a : Option Addr} {zs : List Int} (h : Arr w a zs) {j : Nat} {b off : Nat} (ha : a = some ⟨b, off, none⟩) (hj : j < zs.length) : w.cell? ⟨b, off + j, none⟩ = some (.int .u8 (zs.getD j 0)) := by
  obtain ⟨b', off', e, _, hc⟩ := h.2 j hj
  rw [ha] at e
  simp only [Option.some.injEq, Addr.mk.injEq, and_true] at e
  obtain ⟨rfl, rfl⟩ := e
  exact hc
theorem specSum_walk (a : Option Addr) (n cap : Nat) (zs : List Int) (w : World) (hn : zs.length = n) (ha : Arr w a zs) (hm : n ≤ 1048576) :
    Calls Tryd.prog 75 #[.slice a n cap] w fun e w' => e = .returned (.int .i64 (fold (psum zs ((n + 1) / 2)))) ∧ w' = w := by
  have HN := hide hn
  have HA := hide ha
  clear hn ha
  go_enter Tryd.func75, Tryd.ntmps75
  go_wp2_with fail
  go_loop [3, 4] (fun s t => ∃ i k : Nat, Hid (i = 2 * k) ∧ i ≤ n + 1 ∧ t = .int .i64 i ∧ s = .int .i64 (fold (psum zs k))) (fun _ t => n + 2 - (intOf t).toNat)
  case atStart => exact ⟨0, 0, hide rfl, by omega, rfl, rfl⟩
  case round =>
    obtain ⟨i, k, HI, hi, rfl, rfl⟩ := hrel
    have hp := psum_bd HA.out.1 k
    have hf := fold_bd (psum zs k) hp.1
    by_cases hlt : i < n
    · obtain ⟨b, off, rfl, hbs, hc⟩ := HA.out.2 i (by rw [HN.out]; exact hlt)
      have hz := getD_bd HA.out.1 i
      have hz2 := getD_bd HA.out.1 (i + 1)
      have HF := hide (fold_add (psum zs k) (zs.getD i 0 * 256 + zs.getD (i + 1) 0) hp.1 (by omega) (by omega))
      have HP : Hid (psum zs (k + 1) = psum zs k + (zs.getD i 0 * 256 + zs.getD (i + 1) 0)) := hide (by rw [psum, ← HI.out])
      clear hp
      by_cases hl2 : i + 1 < n
      · have hc2 := HA.out.at (j := i + 1) rfl (by rw [HN.out]; exact hl2)
        generalize zs.getD i 0 = x at *
        generalize zs.getD (i + 1) 0 = y at *
        generalize fold (psum zs k) = s at *
        by_cases hg : 65535 < s + (x * 256 + y)
        all_goals
          go_wp2
          go_round
          case rel => exact ⟨i + 2, k + 1, hide (by have := HI.out; omega), by omega, by go_num, by rw [HP.out, HF.out]; simp only [hg, if_true, if_false]; try go_num⟩
          case measure => simp [intOf]; omega
      · have hy : zs.getD (i + 1) 0 = 0 := by rw [List.getD_eq_getElem?_getD, List.getElem?_eq_none (by have := HN.out; omega)]; rfl
        rw [hy] at hz2 HF HP
        clear hy
        generalize zs.getD i 0 = x at *
        generalize fold (psum zs k) = s at *
        by_cases hg : 65535 < s + (x * 256 + 0)
        all_goals
          go_wp2
          go_round
          case rel => exact ⟨i + 2, k + 1, hide (by have := HI.out; omega), by omega, by go_num, by rw [HP.out, HF.out]; simp only [hg, if_true, if_false]; try go_num⟩
          case measure => simp [intOf]; omega
    · have hk : Hid (k = (n + 1) / 2) := hide (by have := HI.out; omega)
      go_wp2
      go_ret
      exact ⟨ret_int (by rw [hk.out]), rfl⟩
theorem specChecksum_walk (a : Option Addr) (n cap : Nat) (zs : List Int) (w : World) (hn : zs.length = n) (ha : Arr w a zs) (hm : n ≤ 1048576) :
    Calls Tryd.prog 40 #[.slice a n cap] w fun e w' => e = .returned (.int .i64 (65535 - fold (psum zs ((n + 1) / 2)))) ∧ w' = w := by
  have hf := fold_bd (psum zs ((n + 1) / 2)) (psum_bd ha.1 _).1
  have HN := hide hn
  have HA := hide ha
  clear hn ha
  go_enter Tryd.func40, Tryd.ntmps40
  go_wp2_with (go_at_call 75; refine (specSum_walk _ _ _ zs _ HN.out HA.out hm).mono ?_; rintro e w' ⟨rfl, rfl⟩)
  go_ret
  exact ⟨rfl, rfl⟩

theorem l05Flag_walk (b : Bool) (n : Int) (w : World) : Calls Tryd.prog 82 #[.bool b, .int .i64 n] w fun e w' => e = .returned (.int .i64 (if b then n else 0)) ∧ w' = w := by
  cases b with
  | false =>
    go_enter Tryd.func82, Tryd.ntmps82
    go_wp2
    go_ret
    exact ⟨rfl, rfl⟩
  | true =>
    go_enter Tryd.func82, Tryd.ntmps82
    go_wp2
    go_ret
    exact ⟨rfl, rfl⟩
theorem putw4 (v : Int) (w : World) (hv : 0 ≤ v) :
    Calls Tryd.prog 39 #[.int .i64 v, .int .i64 4] w fun e w' => ∃ u : Value, e = .returned u ∧ OwnB w' w.heap.size u (putL v 4) ∧ Below w.heap.size w w' := l03Put_walk v 4 w hv (by omega)
theorem lit_own (w : World) (zs : List Int) (hz : ∀ z ∈ zs, 0 ≤ z ∧ z ≤ 255) (hm : zs.length ≤ 1048576) : OwnB (w.alloc (.cells (bval zs).toArray 5)) w.heap.size (.slice (some ⟨w.heap.size, 0, none⟩) zs.length zs.length) zs :=
  ⟨⟨by unfold bval; simp, .inr ⟨w.heap.size, zs.length, _, rfl, Nat.le_refl _, heap_alloc_new _ _, Nat.le_refl _, by unfold maxLen; omega, by simp [bval], by rw [Nat.mul_one]; exact List.take_of_length_le (by simp [bval])⟩⟩, hz⟩
/-- The head of a packet, its sum not yet in it. -/
def ipH (x0 x1 : Int) (x2 x3 : Bool) (x4 x5 x6 x7 x8 : Int) (z0 : List Int) (n1 : Nat) : List Int :=
  [64 + (20 + (z0.length : Int)) / 4, x0] ++ putL (20 + (z0.length : Int) + (n1 : Int)) 2 ++ putL x1 2 ++ putL ((if x2 then 16384 else 0) + (if x3 then 8192 else 0) + x4 / 8) 2 ++ [x5, x6, 0, 0] ++ putL x7 4 ++ putL x8 4 ++ z0
def csum (zs : List Int) : Int := 65535 - fold (psum zs ((zs.length + 1) / 2))
theorem csum_bd (zs : List Int) (h : ∀ z ∈ zs, 0 ≤ z ∧ z ≤ 255) : 0 ≤ csum zs ∧ csum zs ≤ 65535 := by
  have hf := fold_bd (psum zs ((zs.length + 1) / 2)) (psum_bd h _).1
  unfold csum
  omega
def ipHead (x0 x1 : Int) (x2 x3 : Bool) (x4 x5 x6 x7 x8 : Int) (z0 : List Int) (n1 : Nat) : List Int :=
  ((ipH x0 x1 x2 x3 x4 x5 x6 x7 x8 z0 n1).set 10 (csum (ipH x0 x1 x2 x3 x4 x5 x6 x7 x8 z0 n1) / 256)).set 11 (csum (ipH x0 x1 x2 x3 x4 x5 x6 x7 x8 z0 n1) % 256)
set_option maxHeartbeats 8000000 in
theorem l05Head_walk (x0 x1 : Int) (x2 x3 : Bool) (x4 x5 x6 x7 x8 : Int) (a0 : Option Addr) (n0 c0 : Nat) (a1 : Option Addr) (n1 c1 : Nat) (z0 : List Int) (w : World) (h0 : 0 ≤ x0 ∧ x0 ≤ 255) (h1 : 0 ≤ x1) (h4 : 0 ≤ x4 ∧ x4 ≤ 65528) (h5 : 0 ≤ x5 ∧ x5 ≤ 255) (h6 : 0 ≤ x6 ∧ x6 ≤ 255) (h7 : 0 ≤ x7) (h8 : 0 ≤ x8) (hn : z0.length = n0) (ha : Arr w a0 z0) (m0 : n0 ≤ 40) (m1 : n1 ≤ 65535) :
    Calls Tryd.prog 57 #[.agg #[.int .i64 x0, .int .i64 x1, .bool x2, .bool x3, .int .i64 x4, .int .i64 x5, .int .i64 x6, .int .i64 x7, .int .i64 x8, .slice a0 n0 c0, .slice a1 n1 c1]] w fun e w' => ∃ v : Value, e = .returned v ∧ OwnB w' w.heap.size v (ipHead x0 x1 x2 x3 x4 x5 x6 x7 x8 z0 n1) ∧ Below w.heap.size w w' := by
  have HB := hide (BoxPacket.start w x0 x1 x2 x3 x4 x5 x6 x7 x8 (.slice a0 n0 c0) (.slice a1 n1 c1) 47)
  obtain ⟨_, _, k0, k1, k2, k3, k4, k5, k6, k7, k8, k9, k10⟩ := HB.out
  obtain ⟨p0, p1⟩ := h0
  have HN := hide hn
  have HA := hide ha
  have H1 := hide h1
  have H4 := hide h4
  have H5 := hide h5
  have H6 := hide h6
  have H7 := hide h7
  have H8 := hide h8
  have hs0 := World.size_alloc w (.cells #[.int .i64 x0, .int .i64 x1, .bool x2, .bool x3, .int .i64 x4, .int .i64 x5, .int .i64 x6, .int .i64 x7, .int .i64 x8, .slice a0 n0 c0, .slice a1 n1 c1] 47)
  have HS0 := hide hs0
  generalize hT : ipHead x0 x1 x2 x3 x4 x5 x6 x7 x8 z0 n1 = TT
  have HT := hide hT
  clear hn ha h1 h4 h5 h6 h7 h8 hs0 hT
  go_enter Tryd.func57, Tryd.ntmps57
  go_wp2_with fail
  generalize w.alloc (.cells #[.int .i64 x0, .int .i64 x1, .bool x2, .bool x3, .int .i64 x4, .int .i64 x5, .int .i64 x6, .int .i64 x7, .int .i64 x8, .slice a0 n0 c0, .slice a1 n1 c1] 47) = W0 at *
  have hl0 : OwnB (W0.alloc (.cells #[.int .u8 (64 + (20 + (n0 : Int)) / 4), .int .u8 x0] 5)) w.heap.size (.slice (some ⟨w.heap.size + 1, 0, none⟩) 2 2) [64 + (20 + (n0 : Int)) / 4, x0] := by
    rw [← HS0.out]
    exact (lit_own W0 [64 + (20 + (n0 : Int)) / 4, x0] (by intro z hz; simp only [List.mem_cons, List.not_mem_nil, or_false] at hz; rcases hz with rfl | rfl <;> omega) (by simp)).mono (by have := HS0.out; omega)
  have HO0 := hide hl0
  have HB0 := hide (HB.out.next ((Below.refl _ _).alloc (Nat.le_refl _) (.cells #[.int .u8 (64 + (20 + (n0 : Int)) / 4), .int .u8 x0] 5)))
  clear hl0 HB HS0 k0 k1 k2 k3 k4 k5 k6 k7 k8 k9 k10
  generalize W0.alloc (.cells #[.int .u8 (64 + (20 + (n0 : Int)) / 4), .int .u8 x0] 5) = V0 at *
  refine (put2_walk _ V0 (by omega)).mono ?_
  rintro e w1 ⟨u1, rfl, hO, hb⟩
  have HO0' := hide (HO0.out.next hb)
  have HB1 := hide (HB0.out.next hb)
  have HO1 := hide hO
  clear hO hb HO0 HB0
  go_wp2_with fail
  refine (l01Join_from _ _ _ _ w.heap.size _ _ _ (Nat.le_of_lt HB1.out.2.1) HO0'.out HO1.out (by simp) (by rw [putL_len]; omega)).mono ?_
  rintro e w2 ⟨u2, rfl, hO, hb⟩
  have HB2 := hide (HB1.out.next hb)
  have HO2 := hide hO
  clear hO hb HO0' HO1 HB1
  obtain ⟨_, _, k0, k1, k2, k3, k4, k5, k6, k7, k8, k9, k10⟩ := HB2.out
  go_wp2_with fail
  refine (put2_walk _ w2 H1.out).mono ?_
  rintro e w3 ⟨u3, rfl, hO, hb⟩
  have HO2' := hide (HO2.out.next hb)
  have HB3 := hide (HB2.out.next hb)
  have HO3 := hide hO
  clear hO hb HO2 HB2 k0 k1 k2 k3 k4 k5 k6 k7 k8 k9 k10
  go_wp2_with fail
  refine (l01Join_from _ _ _ _ w.heap.size _ _ _ (Nat.le_of_lt HB3.out.2.1) HO2'.out HO3.out (by simp [putL_len]) (by rw [putL_len]; omega)).mono ?_
  rintro e w4 ⟨u4, rfl, hO, hb⟩
  have HB4 := hide (HB3.out.next hb)
  have HO4 := hide hO
  clear hO hb HO2' HO3 HB3
  obtain ⟨_, _, k0, k1, k2, k3, k4, k5, k6, k7, k8, k9, k10⟩ := HB4.out
  go_wp2_with fail
  obtain ⟨fA, hfA⟩ : ∃ f : Int, f = (if x2 then 16384 else 0) := ⟨_, rfl⟩
  obtain ⟨fB, hfB⟩ : ∃ f : Int, f = (if x3 then 8192 else 0) := ⟨_, rfl⟩
  have bA : 0 ≤ fA ∧ fA ≤ 16384 := by rw [hfA]; split <;> omega
  have bB : 0 ≤ fB ∧ fB ≤ 8192 := by rw [hfB]; split <;> omega
  have CA := hide (fun W => by have h := l05Flag_walk x2 16384 W; rw [← hfA] at h; exact h)
  have CB := hide (fun W => by have h := l05Flag_walk x3 8192 W; rw [← hfB] at h; exact h)
  have HFA := hide hfA
  have HFB := hide hfB
  obtain ⟨r0, r1⟩ := H4.out
  have e1 : IntKind.i64.wrap (fA + fB) = fA + fB := wrap_i64' _ (by omega) (by omega)
  have e2 : x4.tdiv 8 = x4 / 8 := Int.tdiv_eq_ediv_of_nonneg r0
  have e3 : IntKind.i64.wrap (x4 / 8) = x4 / 8 := wrap_i64' _ (by omega) (by omega)
  have e4 : IntKind.i64.wrap (fA + fB + x4 / 8) = fA + fB + x4 / 8 := wrap_i64' _ (by omega) (by omega)
  have e5 : Hid (0 ≤ fA + fB + x4 / 8) := hide (by omega)
  clear hfA hfB bA bB
  have HL4 : Hid (([64 + (20 + (n0 : Int)) / 4, x0] ++ putL (20 + (n0 : Int) + (n1 : Int)) 2 ++ putL x1 2).length = 6) := hide (by simp [putL_len])
  go_region_held3 (fun w' => BoxPacket w w' x0 x1 x2 x3 x4 x5 x6 x7 x8 (.slice a0 n0 c0) (.slice a1 n1 c1)) (first | assumption | exact BoxPacket.next (by assumption) (by assumption) | exact HB4.out.drew)
    (first
      | (go_at_call_of 82 (Value.bool x2); refine (CA.out _).mono ?_; rintro e w' ⟨rfl, rfl⟩)
      | (go_at_call_of 82 (Value.bool x3); refine (CB.out _).mono ?_; rintro e w' ⟨rfl, rfl⟩)
      | (go_at_call 39; refine (put2_walk _ _ e5.out).mono ?_; rintro e w' ⟨uo, rfl, hOo, hbo⟩; have hOh := HO4.out.drew.next hbo)
      | (go_at_call 38; refine (l01Join_from _ _ _ _ w.heap.size _ _ _ (Nat.le_of_lt (by assumption : BoxPacket w _ x0 x1 x2 x3 x4 x5 x6 x7 x8 (.slice a0 n0 c0) (.slice a1 n1 c1)).2.1) hOh hOo (by rw [HL4.out]; omega) (by rw [putL_len]; omega)).mono ?_; rintro e w' ⟨uj, rfl, hOj, hbj⟩))
  rename World => w5
  have HB5 : Hid (BoxPacket w w5 x0 x1 x2 x3 x4 x5 x6 x7 x8 (.slice a0 n0 c0) (.slice a1 n1 c1)) := hide (by assumption)
  have HO5 := hide hOj
  clear hOj hOo hOh hbj hbo HO4 HB4 k0 k1 k2 k3 k4 k5 k6 k7 k8 k9 k10
  obtain ⟨_, _, k0, k1, k2, k3, k4, k5, k6, k7, k8, k9, k10⟩ := HB5.out
  obtain ⟨q50, q51⟩ := H5.out
  obtain ⟨q60, q61⟩ := H6.out
  have HL5 : Hid (([64 + (20 + (n0 : Int)) / 4, x0] ++ putL (20 + (n0 : Int) + (n1 : Int)) 2 ++ putL x1 2 ++ putL (fA + fB + x4 / 8) 2).length = 8) := hide (by rw [List.length_append, HL4.out, putL_len])
  go_wp2_with fail
  have hl5 := (lit_own w5 [x5, x6, 0, 0] (by intro z hz; simp only [List.mem_cons, List.not_mem_nil, or_false] at hz; rcases hz with rfl | rfl | rfl | rfl <;> omega) (by simp))
  have hal := (Below.refl w5.heap.size w5).alloc (Nat.le_refl _) (.cells #[.int .u8 x5, .int .u8 x6, .int .u8 0, .int .u8 0] 5)
  have HB5' := hide (HB5.out.next hal)
  have HO5' := hide (HO5.out.next hal)
  have HL : Hid (OwnB (w5.alloc (.cells #[.int .u8 x5, .int .u8 x6, .int .u8 0, .int .u8 0] 5)) w5.heap.size (.slice (some ⟨w5.heap.size, 0, none⟩) 4 4) [x5, x6, 0, 0]) := hide hl5
  clear hl5 hal HB5 HO5 k0 k1 k2 k3 k4 k5 k6 k7 k8 k9 k10
  generalize w5.alloc (.cells #[.int .u8 x5, .int .u8 x6, .int .u8 0, .int .u8 0] 5) = V5 at *
  refine (l01Join_from _ _ _ _ w.heap.size _ _ _ (Nat.le_of_lt HB5'.out.2.1) HO5'.out HL.out (by rw [HL5.out]; omega) (by simp)).mono ?_
  rintro e w6 ⟨u6, rfl, hO, hb⟩
  have HB6 := hide (HB5'.out.next hb)
  have HO6 := hide hO
  have HL6 : Hid (([64 + (20 + (n0 : Int)) / 4, x0] ++ putL (20 + (n0 : Int) + (n1 : Int)) 2 ++ putL x1 2 ++ putL (fA + fB + x4 / 8) 2 ++ [x5, x6, 0, 0]).length = 12) := hide (by rw [List.length_append, HL5.out]; rfl)
  have HL7 : Hid (([64 + (20 + (n0 : Int)) / 4, x0] ++ putL (20 + (n0 : Int) + (n1 : Int)) 2 ++ putL x1 2 ++ putL (fA + fB + x4 / 8) 2 ++ [x5, x6, 0, 0] ++ putL x7 4).length = 16) := hide (by rw [List.length_append, HL6.out, putL_len])
  have HL8 : Hid (([64 + (20 + (n0 : Int)) / 4, x0] ++ putL (20 + (n0 : Int) + (n1 : Int)) 2 ++ putL x1 2 ++ putL (fA + fB + x4 / 8) 2 ++ [x5, x6, 0, 0] ++ putL x7 4 ++ putL x8 4).length = 20) := hide (by rw [List.length_append, HL7.out, putL_len])
  clear hO hb HO5' HB5' HL HL5 HL4
  generalize hM : [64 + (20 + (n0 : Int)) / 4, x0] ++ putL (20 + (n0 : Int) + (n1 : Int)) 2 ++ putL x1 2 ++ putL (fA + fB + x4 / 8) 2 ++ [x5, x6, 0, 0] = M at *
  have HM := hide hM
  clear hM
  obtain ⟨_, _, k0, k1, k2, k3, k4, k5, k6, k7, k8, k9, k10⟩ := HB6.out
  go_wp2_with fail
  go_region_held3 (fun w' => BoxPacket w w' x0 x1 x2 x3 x4 x5 x6 x7 x8 (.slice a0 n0 c0) (.slice a1 n1 c1)) (first | assumption | exact BoxPacket.next (by assumption) (by assumption) | exact HB6.out.drew)
    (first
      | (go_at_call_of 39 (Value.int IntKind.i64 x7); refine (putw4 x7 _ H7.out).mono ?_; rintro e w' ⟨um, rfl, hOm, hbm⟩; have hOx := HO6.out.drew.next hbm)
      | (go_at_call_of 39 (Value.int IntKind.i64 x8); refine (putw4 x8 _ H8.out).mono ?_; rintro e w' ⟨us, rfl, hOs, hbs⟩; have hOj := hOj.next hbs)
      | (go_at_call 38; refine (l01Join_from _ _ _ _ w.heap.size _ _ _ (Nat.le_of_lt (by assumption : BoxPacket w _ x0 x1 x2 x3 x4 x5 x6 x7 x8 (.slice a0 n0 c0) (.slice a1 n1 c1)).2.1) hOj hOs (by rw [HL7.out]; omega) (by rw [putL_len]; omega)).mono ?_; rintro e w' ⟨uk, rfl, hOk, hbk⟩)
      | (go_at_call 38; refine (l01Join_from _ _ _ _ w.heap.size _ _ _ (Nat.le_of_lt (by assumption : BoxPacket w _ x0 x1 x2 x3 x4 x5 x6 x7 x8 (.slice a0 n0 c0) (.slice a1 n1 c1)).2.1) hOx hOm (by rw [HL6.out]; omega) (by rw [putL_len]; omega)).mono ?_; rintro e w' ⟨uj2, rfl, hOj, hbj⟩))
  rename World => w7
  have HB7 : Hid (BoxPacket w w7 x0 x1 x2 x3 x4 x5 x6 x7 x8 (.slice a0 n0 c0) (.slice a1 n1 c1)) := hide (by assumption)
  have HO7 := hide hOk
  clear hOk hOm hOs hOx hOj hbj hbk hbm hbs HO6 HB6 k0 k1 k2 k3 k4 k5 k6 k7 k8 k9 k10
  obtain ⟨_, _, k0, k1, k2, k3, k4, k5, k6, k7, k8, k9, k10⟩ := HB7.out
  go_wp2_with fail
  refine (l01Join_arr _ a0 n0 c0 _ w.heap.size _ z0 _ (Nat.le_of_lt HB7.out.2.1) HO7.out HN.out (HA.out.below HB7.out.1 (Nat.le_refl _)) (by rw [HL8.out]; omega) (by omega)).mono ?_
  rintro e w8 ⟨u8, rfl, hO, hb⟩
  have HB8 := hide (HB7.out.next hb)
  have HE : Hid (M ++ putL x7 4 ++ putL x8 4 ++ z0 = ipH x0 x1 x2 x3 x4 x5 x6 x7 x8 z0 n1) := hide (by unfold ipH; rw [← HM.out, HFA.out, HFB.out, HN.out])
  have hlen : (M ++ putL x7 4 ++ putL x8 4 ++ z0).length = 20 + n0 := by rw [List.length_append, HL8.out, HN.out]
  rw [HE.out] at hO hlen
  have hT := HT.out
  unfold ipHead at hT
  generalize ipH x0 x1 x2 x3 x4 x5 x6 x7 x8 z0 n1 = R at *
  have hr0 : 20 ≤ R.length := by omega
  have hr1 : R.length ≤ 60 := by omega
  clear hlen
  obtain ⟨g, cp, rfl, hg0, hg1⟩ := hO.form (by omega)
  have HO := hide hO
  have hbd := csum_bd R hO.2
  have CC := hide (specChecksum_walk (some ⟨g, 0, none⟩) R.length cp R w8 rfl (own_arr hO).1 (by omega))
  clear hb HO7 HB7 k0 k1 k2 k3 k4 k5 k6 k7 k8 k9 k10 HE HM hO
  have CC' : Hid (Calls Tryd.prog 40 #[.slice (some ⟨g, 0, none⟩) R.length cp] w8 fun e w' => e = .returned (.int .i64 (csum R)) ∧ w' = w8) := CC
  clear CC
  generalize csum R = S at *
  have HT2 := hide hT
  clear hT HT
  obtain ⟨sb0, sb1⟩ := hbd
  go_wp2_with fail
  refine CC'.out.mono ?_
  rintro e w9 ⟨rfl, hw9⟩
  rw [hw9]
  clear hw9 CC'
  have s1 : S / 256 < 256 := by omega
  have s2 : 0 ≤ S / 256 := by omega
  have hl10 : (10 : Int) < (R.length : Int) := by omega
  have hl11 : (11 : Int) < (R.length : Int) := by omega
  have f0 : ∀ o, w8.frozen? ⟨g, o, none⟩ = false := fun o => HO.out.1.frozenAt o
  have q10 : w8.cell? ⟨g, 10, none⟩ = some (.int .u8 (R.getD 10 0)) := by rw [HO.out.1.cellAt 10 (by omega)]; exact bval_get R 10 (by omega)
  have q11 : w8.cell? ⟨g, 11, none⟩ = some (.int .u8 (R.getD 11 0)) := by rw [HO.out.1.cellAt 11 (by omega)]; exact bval_get R 11 (by omega)
  go_wp2_with fail
  have o1 := HO.out.store rfl 10 (S / 256) s2 (by omega)
  have o2 := o1.1.store (by rw [List.length_set]) 11 (S % 256) (by omega) (by omega)
  have hbe : Below w.heap.size w ((w8.setCell ⟨g, 10, none⟩ (.int .u8 (S / 256))).setCell ⟨g, 11, none⟩ (.int .u8 (S % 256))) := (HB8.out.1.setCell (p := ⟨g, 10, none⟩) hg0 _).setCell (p := ⟨g, 11, none⟩) hg0 _
  go_ret
  exact ⟨_, rfl, by rw [← HT2.out]; exact o2.1, hbe⟩
/-- What EncodeIP tells. -/
def ipC (x0 x1 x4 x5 x6 x7 x8 : Int) (n0 n1 : Nat) : Int := if pkOK x0 x1 x4 x5 x6 x7 x8 n0 then (if 65535 < 20 + (n0 : Int) + (n1 : Int) ∨ 65535 < x4 + (n1 : Int) then 7 else 0) else 1
def ipL (x0 x1 : Int) (x2 x3 : Bool) (x4 x5 x6 x7 x8 : Int) (z0 z1 : List Int) : List Int := if ipC x0 x1 x4 x5 x6 x7 x8 z0.length z1.length = 0 then ipHead x0 x1 x2 x3 x4 x5 x6 x7 x8 z0 z1.length ++ z1 else []
theorem pkOK_parts {x0 x1 x4 x5 x6 x7 x8 : Int} {n0 : Nat} (h : pkOK x0 x1 x4 x5 x6 x7 x8 n0 = true) : (0 ≤ x0 ∧ x0 ≤ 255) ∧ (0 ≤ x1 ∧ x1 ≤ 65535) ∧ (0 ≤ x4 ∧ x4 ≤ 65528) ∧ (0 ≤ x5 ∧ x5 ≤ 255) ∧ (0 ≤ x6 ∧ x6 ≤ 255) ∧ (0 ≤ x7 ∧ x7 ≤ 4294967295) ∧ (0 ≤ x8 ∧ x8 ≤ 4294967295) ∧ n0 ≤ 40 ∧ n0 % 4 = 0 ∧ x4 % 8 = 0 := by
  unfold pkOK at h
  simp only [Bool.and_eq_true, decide_eq_true_eq, beq_iff_eq, inB_iff, adrB_iff] at h
  obtain ⟨⟨⟨⟨⟨⟨⟨⟨⟨a, b⟩, c⟩, d⟩, e⟩, f⟩, g⟩, i⟩, j⟩, k⟩ := h
  exact ⟨a, d, e, b, c, g, i, j, k, f⟩
theorem ipH_len (x0 x1 : Int) (x2 x3 : Bool) (x4 x5 x6 x7 x8 : Int) (z0 : List Int) (n1 : Nat) : (ipH x0 x1 x2 x3 x4 x5 x6 x7 x8 z0 n1).length = 20 + z0.length := by unfold ipH; simp [putL_len]; omega
theorem ipHead_len (x0 x1 : Int) (x2 x3 : Bool) (x4 x5 x6 x7 x8 : Int) (z0 : List Int) (n1 : Nat) : (ipHead x0 x1 x2 x3 x4 x5 x6 x7 x8 z0 n1).length = 20 + z0.length := by unfold ipHead; rw [List.length_set, List.length_set, ipH_len]
set_option maxHeartbeats 4000000 in
theorem specEncIP (x0 x1 : Int) (x2 x3 : Bool) (x4 x5 x6 x7 x8 : Int) (z0 z1 : List Int) (Pre : World → Prop) : EncPacketP 24 Pre x0 x1 x2 x3 x4 x5 x6 x7 x8 z0 z1 (ipL x0 x1 x2 x3 x4 x5 x6 x7 x8 z0 z1) (ipC x0 x1 x4 x5 x6 x7 x8 z0.length z1.length) := by
  intro a0 n0 c0 a1 n1 c1 w h0n h0a k0 m0 h1n h1a k1 m1 _
  have HB := hide (BoxPacket.start w x0 x1 x2 x3 x4 x5 x6 x7 x8 (.slice a0 n0 c0) (.slice a1 n1 c1) 47)
  have CK := hide (fun W => l05OK_walk x0 x1 x2 x3 x4 x5 x6 x7 x8 a0 n0 c0 a1 n1 c1 W m0)
  have HL : Hid (ipL x0 x1 x2 x3 x4 x5 x6 x7 x8 z0 z1 = if ipC x0 x1 x4 x5 x6 x7 x8 n0 n1 = 0 then ipHead x0 x1 x2 x3 x4 x5 x6 x7 x8 z0 n1 ++ z1 else []) := hide (by unfold ipL; rw [h0n, h1n])
  rw [h0n, h1n]
  obtain ⟨_, _, d0, d1, d2, d3, d4, d5, d6, d7, d8, d9, d10⟩ := HB.out
  cases h : pkOK x0 x1 x4 x5 x6 x7 x8 n0 with
  | false =>
    rw [h] at CK
    have HC : Hid (ipC x0 x1 x4 x5 x6 x7 x8 n0 n1 = 1) := hide (by unfold ipC; rw [h]; rfl)
    rw [HC.out] at HL ⊢
    rw [if_neg (by decide)] at HL
    clear h0a h1a h0n h1n h
    go_enter Tryd.func24, Tryd.ntmps24
    go_wp2_with fail
    refine (CK.out _).mono ?_
    rintro e w1 ⟨rfl, hb1⟩
    go_wp2_with fail
    go_ret2
    exact ⟨.slice none 0 0, rfl, by rw [HL.out]; exact ⟨World.ownsRow_nil _ _ _ _, by simp⟩, (HB.out.next hb1).1⟩
  | true =>
    rw [h] at CK
    obtain ⟨p0, p1, p4, p5, p6, p7, p8, pn, _, _⟩ := pkOK_parts h
    have CH := hide (fun W (hb : Below w.heap.size w W) (hq : n1 ≤ 65535) => l05Head_walk x0 x1 x2 x3 x4 x5 x6 x7 x8 a0 n0 c0 a1 n1 c1 z0 W p0 p1.1 p4 p5 p6 p7.1 p8.1 h0n (h0a.below hb (Nat.le_refl _)) pn hq)
    have HA1 := hide h1a
    have HN1 := hide h1n
    have hlH : Hid ((ipHead x0 x1 x2 x3 x4 x5 x6 x7 x8 z0 n1).length ≤ 1048576) := hide (by rw [ipHead_len]; omega)
    obtain ⟨q0, q1⟩ := p4
    by_cases hs : 65535 < 20 + (n0 : Int) + (n1 : Int)
    · have HC : Hid (ipC x0 x1 x4 x5 x6 x7 x8 n0 n1 = 7) := hide (by unfold ipC; rw [h, if_pos rfl, if_pos (.inl hs)])
      rw [HC.out] at HL ⊢
      rw [if_neg (by decide)] at HL
      clear h0a h1a h0n h1n h CH
      go_enter Tryd.func24, Tryd.ntmps24
      go_wp2_with fail
      refine (CK.out _).mono ?_
      rintro e w1 ⟨rfl, hb1⟩
      have HB1 := hide (HB.out.next hb1)
      clear hb1 HB d0 d1 d2 d3 d4 d5 d6 d7 d8 d9 d10
      obtain ⟨_, _, d0, d1, d2, d3, d4, d5, d6, d7, d8, d9, d10⟩ := HB1.out
      go_wp2_with fail
      go_ret2
      exact ⟨.slice none 0 0, rfl, by rw [HL.out]; exact ⟨World.ownsRow_nil _ _ _ _, by simp⟩, HB1.out.1⟩
    · by_cases ho : 65535 < x4 + (n1 : Int)
      · have HC : Hid (ipC x0 x1 x4 x5 x6 x7 x8 n0 n1 = 7) := hide (by unfold ipC; rw [h, if_pos rfl, if_pos (.inr ho)])
        rw [HC.out] at HL ⊢
        rw [if_neg (by decide)] at HL
        clear h0a h1a h0n h1n h CH
        go_enter Tryd.func24, Tryd.ntmps24
        go_wp2_with fail
        refine (CK.out _).mono ?_
        rintro e w1 ⟨rfl, hb1⟩
        have HB1 := hide (HB.out.next hb1)
        clear hb1 HB d0 d1 d2 d3 d4 d5 d6 d7 d8 d9 d10
        obtain ⟨_, _, d0, d1, d2, d3, d4, d5, d6, d7, d8, d9, d10⟩ := HB1.out
        go_wp2_with fail
        go_ret2
        exact ⟨.slice none 0 0, rfl, by rw [HL.out]; exact ⟨World.ownsRow_nil _ _ _ _, by simp⟩, HB1.out.1⟩
      · have HC : Hid (ipC x0 x1 x4 x5 x6 x7 x8 n0 n1 = 0) := hide (by unfold ipC; rw [h, if_pos rfl, if_neg (by omega)])
        rw [HC.out] at HL ⊢
        rw [if_pos rfl] at HL
        clear h0a h1a h0n h1n h
        generalize ipHead x0 x1 x2 x3 x4 x5 x6 x7 x8 z0 n1 = HH at *
        go_enter Tryd.func24, Tryd.ntmps24
        go_wp2_with fail
        refine (CK.out _).mono ?_
        rintro e w1 ⟨rfl, hb1⟩
        have HB1 := hide (HB.out.next hb1)
        clear hb1 HB d0 d1 d2 d3 d4 d5 d6 d7 d8 d9 d10
        obtain ⟨_, _, d0, d1, d2, d3, d4, d5, d6, d7, d8, d9, d10⟩ := HB1.out
        go_wp2_with fail
        go_region_held3 (fun w' => BoxPacket w w' x0 x1 x2 x3 x4 x5 x6 x7 x8 (.slice a0 n0 c0) (.slice a1 n1 c1)) (first | assumption | exact BoxPacket.next (by assumption) (by assumption) | exact HB1.out.drew)
          (first
            | (go_at_call 57; refine (CH.out _ (by assumption : BoxPacket w _ x0 x1 x2 x3 x4 x5 x6 x7 x8 (.slice a0 n0 c0) (.slice a1 n1 c1)).1 (by omega)).mono ?_; rintro e w' ⟨uh, rfl, hOh, hbh⟩)
            | (go_at_call 38; refine (l01Join_arr _ a1 n1 c1 _ w.heap.size _ z1 _ (Nat.le_of_lt (by assumption : BoxPacket w _ x0 x1 x2 x3 x4 x5 x6 x7 x8 (.slice a0 n0 c0) (.slice a1 n1 c1)).2.1) hOh HN1.out (HA1.out.below (by assumption : BoxPacket w _ x0 x1 x2 x3 x4 x5 x6 x7 x8 (.slice a0 n0 c0) (.slice a1 n1 c1)).1 (Nat.le_refl _)) hlH.out (by omega)).mono ?_; rintro e w' ⟨uj, rfl, hOj, hbj⟩))
        all_goals go_wp2_with fail
        all_goals go_ret2
        all_goals exact ⟨uj, rfl, by rw [HL.out]; exact hOj, (by assumption : BoxPacket w _ x0 x1 x2 x3 x4 x5 x6 x7 x8 (.slice a0 n0 c0) (.slice a1 n1 c1)).1⟩
/-- PacketSize of the specification. -/
def ipN (x0 x1 x4 x5 x6 x7 x8 : Int) (n0 n1 : Nat) : Int := if pkOK x0 x1 x4 x5 x6 x7 x8 n0 then 20 + (n0 : Int) + (n1 : Int) else 0
end Go.Proofs.YtakoagfeiolkjabDoor
