/-
Contracts of functions of this seat.
-/
import Derived.Test.YtcnfnimgpiaamaaDoorRows
import Derived.WalkKit
import Derived.ProofKit
import Derived.OpenShut
import Derived.Test.YtcnfnimgpiaamaaDoorCuo
import Derived.Test.YtcnfnimgpiaamaaDoorSgo
namespace Go.Proofs.YtcnfnimgpiaamaaDoor
open Go.ChangeShapes Go.WideShapes Go.ChangeAt Go.RowKit
set_option linter.unusedVariables false
set_option maxRecDepth 100000
/-- The sum of numbers of two bytes with its carries added at the low end. -/
def fold (s : Int) : Int := if s = 0 then 0 else (s - 1) % 65535 + 1
theorem fold_small (s : Int) (h0 : 0 ≤ s) (h1 : s ≤ 65535) : fold s = s := by unfold fold; split <;> omega
theorem fold_bd (s : Int) (h0 : 0 ≤ s) : 0 ≤ fold s ∧ fold s ≤ 65535 := by unfold fold; split <;> omega
theorem fold_shift (s : Int) (h : 65535 < s) : fold (s / 65536 + s % 65536) = fold s := by
  unfold fold; rw [if_neg (by omega), if_neg (by omega)]; omega
theorem fold_sub (s : Int) (h : 65535 < s) : fold (s - 65535) = fold s := by
  unfold fold; rw [if_neg (by omega), if_neg (by omega)]; omega

attribute [local go_sem] and_65535_u64 signed_u16 wrap_u16 not_u16
theorem fold_walk (s : Int) (h0 : 0 ≤ s) (h1 : s ≤ 18446744073709551615) (w : World) :
    Calls Tryd.prog 110 #[.int .u64 s] w fun e w' => e = .returned (.int .i64 (65535 - fold s)) ∧ w' = w := by
  go_enter Tryd.func110, Tryd.ntmps110
  go_wp2
  go_loop [0] (fun t => ∃ s' : Int, 0 ≤ s' ∧ s' ≤ 18446744073709551615 ∧ Hid (fold s' = fold s) ∧ t = .int .u64 s') (fun t => (intOf t).toNat)
  case atStart => exact ⟨s, h0, h1, hide rfl, rfl⟩
  case round =>
    obtain ⟨s', g0, g1, H, rfl⟩ := hrel
    by_cases hlt : 65535 < s'
    · go_wp2
      go_round
      case rel => exact ⟨s' / 65536 + s' % 65536, by omega, by omega, hide ((fold_shift s' hlt).trans H.out), by go_num⟩
      case measure => simp [intOf]; omega
    · go_wp2
      go_ret
      refine ⟨ret_int ?_, rfl⟩
      rw [← H.out, fold_small s' g0 (by omega)]
      omega

/-- The sum of the first k numbers of two bytes; behind the last byte stand zeros. -/
def psum (zs : List Int) : Nat → Int
  | 0 => 0
  | k + 1 => psum zs k + (zs.getD (2 * k) 0 * 256 + zs.getD (2 * k + 1) 0)
theorem psum_bd {zs : List Int} (h : ∀ z ∈ zs, 0 ≤ z ∧ z ≤ 255) : ∀ k : Nat, 0 ≤ psum zs k ∧ psum zs k ≤ 65535 * (k : Int)
  | 0 => by simp [psum]
  | k + 1 => by
    have h1 := psum_bd h k
    have h2 := getD_bd h (2 * k)
    have h3 := getD_bd h (2 * k + 1)
    simp only [psum]; omega
theorem psum_odd {zs : List Int} {n : Nat} (hn : zs.length = n) (ho : n % 2 = 1) : psum zs ((n + 1) / 2) = psum zs (n / 2) + zs.getD (n - 1) 0 * 256 := by
  have e : (n + 1) / 2 = n / 2 + 1 := by omega
  rw [e, psum, show 2 * (n / 2) = n - 1 by omega]
  have : zs.getD (n - 1 + 1) 0 = 0 := by rw [List.getD_eq_getElem?_getD, List.getElem?_eq_none (by omega)]; rfl
  rw [this]; omega
theorem fold_add (S x : Int) (hS : 0 ≤ S) (h0 : 0 ≤ x) (h1 : x ≤ 65535) : fold (S + x) = if 65535 < fold S + x then fold S + x - 65535 else fold S + x := by
  unfold fold
  by_cases hs : S = 0
  · subst hs
    by_cases hx : x = 0
    · subst hx; simp
    · rw [if_neg (by omega)]; simp; split <;> omega
  · rw [if_neg (by omega), if_neg hs]
    split <;> omega

theorem Arr.at {w : World} {a : Option Addr} {zs : List Int} (h : Arr w a zs) {j : Nat} {b off : Nat} (ha : a = some ⟨b, off, none⟩) (hj : j < zs.length) : w.cell? ⟨b, off + j, none⟩ = some (.int .u8 (zs.getD j 0)) := by
  obtain ⟨b', off', e, _, hc⟩ := h.2 j hj
  rw [ha] at e
  simp only [Option.some.injEq, Addr.mk.injEq, and_true] at e
  obtain ⟨rfl, rfl⟩ := e
  exact hc
theorem specSum_walk (a : Option Addr) (n cap : Nat) (zs : List Int) (w : World) (hn : zs.length = n) (ha : Arr w a zs) (hm : n ≤ 1048576) :
    Calls Tryd.prog 108 #[.slice a n cap] w fun e w' => e = .returned (.int .i64 (fold (psum zs ((n + 1) / 2)))) ∧ w' = w := by
  have HN := hide hn
  have HA := hide ha
  clear hn ha
  go_enter Tryd.func108, Tryd.ntmps108
  go_wp2_with fail
  go_loop [3, 4] (fun s t => ∃ i k : Nat, Hid (i = 2 * k) ∧ i ≤ n + 1 ∧ t = .int .i64 i ∧ s = .int .i64 (fold (psum zs k))) (fun _ t => n + 2 - (intOf t).toNat)
  case atStart => exact ⟨0, 0, hide rfl, by omega, rfl, rfl⟩
  case round =>
    obtain ⟨i, k, HI, hi, rfl, rfl⟩ := hrel
    have hp := psum_bd HA.out.1 k
    have hf := fold_bd (psum zs k) hp.1
    by_cases hlt : i < n
    · obtain ⟨b, off, rfl, hbs, hc⟩ := HA.out.2 i (by rw [HN.out]; exact hlt)
      have hz := getD_bd HA.out.1 i
      have hz2 := getD_bd HA.out.1 (i + 1)
      have HF := hide (fold_add (psum zs k) (zs.getD i 0 * 256 + zs.getD (i + 1) 0) hp.1 (by omega) (by omega))
      have HP : Hid (psum zs (k + 1) = psum zs k + (zs.getD i 0 * 256 + zs.getD (i + 1) 0)) := hide (by rw [psum, ← HI.out])
      clear hp
      by_cases hl2 : i + 1 < n
      · have hc2 := HA.out.at (j := i + 1) rfl (by rw [HN.out]; exact hl2)
        generalize zs.getD i 0 = x at *
        generalize zs.getD (i + 1) 0 = y at *
        generalize fold (psum zs k) = s at *
        by_cases hg : 65535 < s + (x * 256 + y)
        all_goals
          go_wp2
          go_round
          case rel => exact ⟨i + 2, k + 1, hide (by have := HI.out; omega), by omega, by go_num, by rw [HP.out, HF.out]; simp only [hg, if_true, if_false]; try go_num⟩
          case measure => simp [intOf]; omega
      · have hy : zs.getD (i + 1) 0 = 0 := by rw [List.getD_eq_getElem?_getD, List.getElem?_eq_none (by have := HN.out; omega)]; rfl
        rw [hy] at hz2 HF HP
        clear hy
        generalize zs.getD i 0 = x at *
        generalize fold (psum zs k) = s at *
        by_cases hg : 65535 < s + (x * 256 + 0)
        all_goals
          go_wp2
          go_round
          case rel => exact ⟨i + 2, k + 1, hide (by have := HI.out; omega), by omega, by go_num, by rw [HP.out, HF.out]; simp only [hg, if_true, if_false]; try go_num⟩
          case measure => simp [intOf]; omega
    · have hk : Hid (k = (n + 1) / 2) := hide (by have := HI.out; omega)
      go_wp2
      go_ret
      exact ⟨ret_int (by rw [hk.out]), rfl⟩
theorem specChecksum_walk (a : Option Addr) (n cap : Nat) (zs : List Int) (w : World) (hn : zs.length = n) (ha : Arr w a zs) (hm : n ≤ 1048576) :
    Calls Tryd.prog 81 #[.slice a n cap] w fun e w' => e = .returned (.int .i64 (65535 - fold (psum zs ((n + 1) / 2)))) ∧ w' = w := by
  have hf := fold_bd (psum zs ((n + 1) / 2)) (psum_bd ha.1 _).1
  have HN := hide hn
  have HA := hide ha
  clear hn ha
  go_enter Tryd.func81, Tryd.ntmps81
  go_wp2_with (go_at_call 108; refine (specSum_walk _ _ _ zs _ HN.out HA.out hm).mono ?_; rintro e w' ⟨rfl, rfl⟩)
  go_ret
  exact ⟨rfl, rfl⟩

/-- Bytes summed one by one: those at even places stand high. -/
def qsum (zs : List Int) : Nat → Int
  | 0 => 0
  | i + 1 => qsum zs i + zs.getD i 0 * (if i % 2 = 0 then 256 else 1)
theorem qsum_even (zs : List Int) (i : Nat) (h : i % 2 = 0) : qsum zs (i + 1) = qsum zs i + zs.getD i 0 * 256 := by rw [qsum, if_pos h]
theorem qsum_odd (zs : List Int) (i : Nat) (h : ¬ i % 2 = 0) : qsum zs (i + 1) = qsum zs i + zs.getD i 0 := by rw [qsum, if_neg h, Int.mul_one]
theorem qsum_pair (zs : List Int) : ∀ k : Nat, qsum zs (2 * k) = psum zs k
  | 0 => rfl
  | k + 1 => by
    rw [show 2 * (k + 1) = 2 * k + 1 + 1 by omega, qsum_odd zs (2 * k + 1) (by omega), qsum_even zs (2 * k) (by omega), qsum_pair zs k, psum]
    omega
theorem qsum_all {zs : List Int} {n : Nat} (hn : zs.length = n) : qsum zs n = psum zs ((n + 1) / 2) := by
  by_cases h : n % 2 = 0
  · rw [show (n + 1) / 2 = n / 2 by omega, ← qsum_pair, show 2 * (n / 2) = n by omega]
  · rw [← qsum_pair, show 2 * ((n + 1) / 2) = n + 1 by omega, qsum_odd zs n h, List.getD_eq_getElem?_getD, List.getElem?_eq_none (by omega)]
    simp
theorem qsum_bd {zs : List Int} (h : ∀ z ∈ zs, 0 ≤ z ∧ z ≤ 255) : ∀ i : Nat, 0 ≤ qsum zs i ∧ qsum zs i ≤ 65535 * (i : Int)
  | 0 => by simp [qsum]
  | i + 1 => by
    have h1 := qsum_bd h i
    have h2 := getD_bd h i
    by_cases e : i % 2 = 0
    · rw [qsum_even zs i e]; omega
    · rw [qsum_odd zs i e]; omega
def shf (i : Nat) : Int := if i % 2 = 0 then 8 else 0
/-- How many bytes stand in the first rows. -/
def ofs (ls : List (List Int)) (i : Nat) : Nat := (ls.take i).flatten.length
theorem ofs_succ (ls : List (List Int)) (i : Nat) (h : i < ls.length) : ofs ls (i + 1) = ofs ls i + (ls.getD i []).length := by
  unfold ofs
  rw [List.take_add_one, List.flatten_append, List.length_append, List.getD_eq_getElem?_getD, List.getElem?_eq_getElem h]
  simp
theorem ofs_all (ls : List (List Int)) : ofs ls ls.length = ls.flatten.length := by unfold ofs; rw [List.take_length]
theorem ofs_get (ls : List (List Int)) (i j : Nat) (h : i < ls.length) (hj : j < (ls.getD i []).length) : ls.flatten.getD (ofs ls i + j) 0 = (ls.getD i []).getD j 0 := by
  have e : ls = ls.take i ++ (ls.getD i [] :: ls.drop (i + 1)) := by
    rw [List.getD_eq_getElem?_getD, List.getElem?_eq_getElem h]
    simp
  have e2 : ls.flatten = (ls.take i).flatten ++ (ls.getD i [] ++ (ls.drop (i + 1)).flatten) := by
    have := congrArg List.flatten e
    rw [List.flatten_append, List.flatten_cons] at this
    exact this
  rw [e2]
  unfold ofs
  rw [List.getD_eq_getElem?_getD, List.getElem?_append_right (by omega), Nat.add_sub_cancel_left, List.getElem?_append_left hj, ← List.getD_eq_getElem?_getD]
theorem ofs_le (ls : List (List Int)) (i : Nat) (h : i < ls.length) : ofs ls i + (ls.getD i []).length ≤ ls.flatten.length := by
  rw [← ofs_succ ls i h]
  unfold ofs
  have e : (ls.take (i + 1)).flatten ++ (ls.drop (i + 1)).flatten = ls.flatten := by rw [← List.flatten_append, List.take_append_drop]
  rw [← e, List.length_append]
  omega
/-- Rows of bytes whose slices lie in the cells of a row. -/
def Parts (w : World) (b off : Nat) (ls : List (List Int)) : Prop := ∀ i, i < ls.length → ∃ (a : Option Addr) (n cap : Nat), w.cell? ⟨b, off + i, none⟩ = some (.slice a n cap) ∧ (ls.getD i []).length = n ∧ Arr w a (ls.getD i [])
set_option maxHeartbeats 2000000 in
theorem checksumOf_walk (b off m cap : Nat) (ls : List (List Int)) (w : World) (hm : ls.length = m) (hp : Parts w b off ls) (hz : ∀ z ∈ ls.flatten, 0 ≤ z ∧ z ≤ 255) (hl : ls.flatten.length ≤ 2097152) (hM : m ≤ 1048576) :
    Calls Tryd.prog 86 #[.slice (some ⟨b, off, none⟩) m cap] w fun e w' => e = .returned (.int .i64 (65535 - fold (psum ls.flatten ((ls.flatten.length + 1) / 2)))) ∧ w' = w := by
  have HM := hide hm
  have HP := hide hp
  have HZ := hide hz
  have HL := hide hl
  clear hm hp hz hl
  go_enter Tryd.func86, Tryd.ntmps86
  go_wp2_with fail
  go_loop [3, 4, 11] (fun s h t => ∃ i : Nat, i ≤ m ∧ t = .int .i64 i ∧ s = .int .u64 (qsum ls.flatten (ofs ls i)) ∧ h = .int .i64 (shf (ofs ls i))) (fun _ _ t => m - (intOf t).toNat)
  case atStart => exact ⟨0, by omega, rfl, rfl, rfl⟩
  case round =>
    obtain ⟨i, hi, rfl, rfl, rfl⟩ := hrel
    by_cases hlt : i < m
    · have HI : Hid (i < ls.length) := hide (by rw [HM.out]; exact hlt)
      obtain ⟨a, n, cp, hc, hn, ha⟩ := HP.out i HI.out
      have HN := hide hn
      have HA := hide ha
      have HO := hide (ofs_le ls i HI.out)
      have HS := hide (ofs_succ ls i HI.out)
      rw [hn] at HO HS
      clear hn ha
      generalize ho : ofs ls i = o at *
      have HOO := hide ho
      clear ho
      have hnb : n ≤ 2097152 := by have h1 := HO.out; have h2 := HL.out; omega
      go_wp2_with fail
      go_loop [3, 4, 17] (fun s h t => ∃ j : Nat, j ≤ n ∧ t = .int .i64 j ∧ s = .int .u64 (qsum ls.flatten (o + j)) ∧ h = .int .i64 (shf (o + j))) (fun _ _ t => n - (intOf t).toNat)
      case atStart => exact ⟨0, by omega, rfl, rfl, rfl⟩
      case round =>
        obtain ⟨j, hj, rfl, rfl, rfl⟩ := hrel
        by_cases hlj : j < n
        · obtain ⟨b', off', rfl, hbs, hcj⟩ := HA.out.2 j (by rw [HN.out]; exact hlj)
          have hzj := getD_bd HA.out.1 j
          have HG : Hid (ls.flatten.getD (o + j) 0 = (ls.getD i []).getD j 0) := hide (by rw [← HOO.out]; exact ofs_get ls i j HI.out (by rw [HN.out]; exact hlj))
          have hq := qsum_bd HZ.out (o + j)
          have hoj : o + j ≤ 2097152 := by have h1 := HO.out; have h2 := HL.out; omega
          have hq2 : qsum ls.flatten (o + j) ≤ 137438953472 := by omega
          have hq1 := hq.1
          clear hq
          by_cases he : (o + j) % 2 = 0
          · have HQ := hide (qsum_even ls.flatten (o + j) he)
            rw [HG.out] at HQ
            have s1 : shf (o + j) = 8 := by unfold shf; rw [if_pos he]
            have S2 : Hid (shf (o + (j + 1)) = 0) := hide (by unfold shf; rw [if_neg (by omega)])
            rw [s1]
            clear he s1 HG
            generalize (ls.getD i []).getD j 0 = x at *
            generalize qsum ls.flatten (o + j) = s at *
            go_wp2
            go_round
            case rel => exact ⟨j + 1, by omega, by go_num, by rw [← Nat.add_assoc, HQ.out], by rw [S2.out]⟩
            case measure => simp [intOf]; omega
          · have HQ := hide (qsum_odd ls.flatten (o + j) he)
            rw [HG.out] at HQ
            have s1 : shf (o + j) = 0 := by unfold shf; rw [if_neg he]
            have S2 : Hid (shf (o + (j + 1)) = 8) := hide (by unfold shf; rw [if_pos (by omega)])
            rw [s1]
            clear he s1 HG
            generalize (ls.getD i []).getD j 0 = x at *
            generalize qsum ls.flatten (o + j) = s at *
            go_wp2
            go_round
            case rel => exact ⟨j + 1, by omega, by go_num, by rw [← Nat.add_assoc, HQ.out], by rw [S2.out]⟩
            case measure => simp [intOf]; omega
        · have hjn : j = n := by omega
          subst hjn
          go_wp2_with fail
          go_round
          case rel => exact ⟨i + 1, by omega, by go_num, by rw [HS.out], by rw [HS.out]⟩
          case measure => simp [intOf]; omega
    · have him : i = m := by omega
      have HQ : Hid (qsum ls.flatten (ofs ls i) = psum ls.flatten ((ls.flatten.length + 1) / 2)) := hide (by rw [him, ← HM.out, ofs_all]; exact qsum_all rfl)
      have hq := qsum_bd HZ.out (ofs ls i)
      have hq2 : qsum ls.flatten (ofs ls i) ≤ 137438953472 := by
        have h1 : ofs ls i = ls.flatten.length := by rw [him, ← HM.out, ofs_all]
        have h2 := HL.out
        omega
      have hq1 := hq.1
      clear hq him
      generalize qsum ls.flatten (ofs ls i) = s at *
      go_wp2_with (go_at_call 110; refine (fold_walk _ (by omega) (by omega) _).mono ?_; rintro e w' ⟨rfl, rfl⟩)
      go_ret
      exact ⟨ret_int (by rw [HQ.out]), rfl⟩

theorem putw4 (v : Int) (w : World) (hv : 0 ≤ v) :
    Calls Tryd.prog 109 #[.int .i64 v, .int .i64 4] w fun e w' => ∃ u : Value, e = .returned u ∧ OwnB w' w.heap.size u (putL v 4) ∧ Below w.heap.size w w' := l03Put_walk v 4 w hv (by omega)
theorem lit_own (w : World) (zs : List Int) (hz : ∀ z ∈ zs, 0 ≤ z ∧ z ≤ 255) (hm : zs.length ≤ 1048576) : OwnB (w.alloc (.cells (bval zs).toArray 5)) w.heap.size (.slice (some ⟨w.heap.size, 0, none⟩) zs.length zs.length) zs :=
  ⟨⟨by unfold bval; simp, .inr ⟨w.heap.size, zs.length, _, rfl, Nat.le_refl _, heap_alloc_new _ _, Nat.le_refl _, by unfold maxLen; omega, by simp [bval], by rw [Nat.mul_one]; exact List.take_of_length_le (by simp [bval])⟩⟩, hz⟩
def csum (zs : List Int) : Int := 65535 - fold (psum zs ((zs.length + 1) / 2))
theorem csum_bd (zs : List Int) (h : ∀ z ∈ zs, 0 ≤ z ∧ z ≤ 255) : 0 ≤ csum zs ∧ csum zs ≤ 65535 := by
  have hf := fold_bd (psum zs ((zs.length + 1) / 2)) (psum_bd h _).1
  unfold csum
  omega

set_option maxHeartbeats 1000000 in
theorem l03Put_any (v : Int) (width : Nat) (w : World) (hw : width ≤ 8) :
    Calls Tryd.prog 109 #[.int .i64 v, .int .i64 (width : Int)] w fun e w' => ∃ u : Value, e = .returned u ∧ OwnB w' w.heap.size u (putL v width) ∧ Below w.heap.size w w' := by
  obtain ⟨i, hi, hz0, hz1, hz2⟩ := info_parts Tryd.infoB
  have hst : OwnB (w.alloc (.cells #[] 5)) w.heap.size (.slice (some ⟨w.heap.size, 0, none⟩) 0 0) [] :=
    ⟨World.ownsRow_lit (base := w.heap.size) (e := 5) (size := 1) w #[] 0 (Nat.le_refl _) (by decide) rfl, by simp⟩
  have HST := hide hst
  have hb0 := (Below.refl w.heap.size w).alloc (Nat.le_refl _) (.cells #[] 5)
  clear hst
  go_enter Tryd.func109, Tryd.ntmps109
  go_wp2_with fail
  generalize w.alloc (.cells #[] 5) = W at *
  go_loopw [5, 6] (fun o t w2 => ∃ j : Nat, j ≤ width ∧ t = .int .i64 ((width : Int) - 1 - (j : Int)) ∧ Hid (OwnB w2 w.heap.size o (putP v width j)) ∧ Below w.heap.size w w2) (fun _ t _ => (intOf t + 1).toNat)
  case atStart => exact ⟨0, Nat.zero_le _, by go_num, HST, hb0⟩
  case round =>
    obtain ⟨j, hj, rfl, HO, hb⟩ := hrel
    clear hb0
    by_cases hlt : j < width
    · have HT := hide (putP_succ v width j)
      have HL := hide (putP_len v width j)
      have hbd := byteOf_bd v width j
      have HE : Hid (v / 2 ^ (8 * (width - 1 - j)) % 256 = byteOf v width j) := hide rfl
      go_wp2_with (first | (at_builtin; refine wpList_append_own _ rfl _ _ 23 rfl w.heap.size 5 i _ 1 1 Tryd.underlying23 hi hz0 hz1 hz2 rfl (by decide) u5 (putP v width j).length (bval (putP v width j)) rfl (HO.out.1.alloc _) ⟨wr.heap.size, 0, none⟩ 1 1 (bval [_]) rfl rfl (cell_one _ _ _) (oneCells _) (by have := HL.out; unfold maxLen; omega) (by have := HL.out; omega) (by have := hb.size; rw [World.size_alloc]; omega) ?_))
      intro v' w3 hown' hgrow hnil
      have hlo := HO.out.1.lt
      have HO3 := hide (OwnB.app hown' rfl HO.out.2 (by intro y hy; simp at hy; subst hy; exact hbd))
      have hb3 : Below w.heap.size w w3 := (hb.alloc hb.size _).grown hgrow (by have := hb.size; rw [World.size_alloc]; omega) (fun k hk => (hlo k hk).1)
      clear hown' hnil hgrow hb hlo
      go_wp2_with fail
      exact ⟨⟨j + 1, by omega, by go_num, hide (by rw [HT.out]; exact HO3.out), hb3⟩, by simp [intOf]; omega⟩
    · have hj' : j = width := by omega
      subst hj'
      go_wp2_with fail
      go_ret
      exact ⟨u5, rfl, HO.out, hb⟩

/-- A false head's bytes. -/
def fhB (s d p l : Int) : List Int := putL s 4 ++ putL d 4 ++ [0] ++ putL p 1 ++ putL l 2
theorem fhB_len (s d p l : Int) : (fhB s d p l).length = 12 := by unfold fhB; simp [putL_len]
theorem fhB_bd (s d p l : Int) : ∀ q ∈ fhB s d p l, 0 ≤ q ∧ q ≤ 255 := by
  intro q hq
  unfold fhB at hq
  simp only [List.mem_append] at hq
  rcases hq with (((hq | hq) | hq) | hq) | hq
  · exact putL_bd _ _ q hq
  · exact putL_bd _ _ q hq
  · simp only [List.mem_cons, List.not_mem_nil, or_false] at hq; omega
  · exact putL_bd _ _ q hq
  · exact putL_bd _ _ q hq
theorem pass_on1 (g G N p : Nat) (w : World) (hc : Cur w g (.slice (some ⟨G, 0, none⟩) N N) p .nilIface) (hb : N ≤ 1048576) (hk : p + 1 ≤ N) :
    Calls Tryd.prog 45 #[.pointer (some ⟨g, 0, none⟩), .int .i64 1] w fun e w' => e = .returned (.slice (some ⟨G, p, none⟩) 1 (N - p)) ∧ Cur w' g (.slice (some ⟨G, 0, none⟩) N N) (p + 1) .nilIface ∧ w.grownBy w' (some g) := by
  have h := pass_ok g p N N G 0 1 w hc (by omega) hk (by omega) (Nat.le_refl _)
  rw [Nat.zero_add] at h
  exact h
theorem rep_one (done : List Int) (m : Nat) (h : 1 ≤ m) : done ++ List.replicate m 0 = (done ++ [0]) ++ List.replicate (m - 1) 0 := by
  obtain ⟨k, rfl⟩ : ∃ k, m = k + 1 := ⟨m - 1, by omega⟩
  rw [Nat.add_sub_cancel, List.append_assoc]
  rfl
set_option maxHeartbeats 8000000 in
theorem falseHead_walk (s d p l : Int) (w : World) :
    Calls Tryd.prog 87 #[.int .i64 s, .int .i64 d, .int .i64 p, .int .i64 l] w fun e w' => ∃ G : Nat, e = .returned (.slice (some ⟨G, 0, none⟩) 12 12) ∧ w.heap.size ≤ G ∧ RowB w' G (fhB s d p l) ∧ Below w.heap.size w w' := by
  have HW := hide (BoxV.start w #[.slice none 0 0, .int .i64 0, .nilIface] 69)
  have HC : Hid (Cur (w.alloc (.cells #[.slice none 0 0, .int .i64 0, .nilIface] 69)) w.heap.size (.slice none 0 0) 0 .nilIface) := hide HW.out.2.2
  have hgl := HC.out.lt
  have HB := hide HW.out.1
  clear HW
  have CM := hide (makeRoom_ok w.heap.size 0 (.slice none 0 0) 12 _ HC.out (by omega))
  go_enter Tryd.func87, Tryd.ntmps87
  go_wp2_with fail
  generalize w.alloc (.cells #[.slice none 0 0, .int .i64 0, .nilIface] 69) = W at *
  have hlt := HC.out.lt
  refine CM.out.mono ?_
  rintro e w0 ⟨rfl, hc, hr, hg⟩
  have HC0 := hide hc
  have HR0 : Hid (RowB w0 W.heap.size ([] ++ List.replicate 12 0)) := hide hr
  have HB0 := hide (HB.out.grown hg HB.out.size (fun k hk => by cases hk; exact Nat.le_refl _))
  clear CM hc hr hg HC HB
  generalize hG : W.heap.size = G at *
  generalize hgg : w.heap.size = g at *
  have HGG := hide hgg
  clear hG hgg
  have hg : g < G := hlt
  have C := hide (put_on4 g G 12 0 12 s ([]) _ HC0.out HR0.out hg rfl (by omega) (by omega) (by omega))
  go_wp2_with fail
  refine C.out.mono ?_
  rintro e w1 ⟨rfl, hc, hr, ho⟩
  have HC1 : Hid (Cur w1 g (.slice (some ⟨G, 0, none⟩) 12 12) 4 .nilIface) := hide hc
  have HR1 := hide hr
  have HO1 := hide ho
  clear C hc hr ho HC0 HR0
  have C := hide (put_on4 g G 12 4 8 d ([] ++ putL s 4) _ HC1.out HR1.out hg (by simp [putL_len]) (by omega) (by omega) (by omega))
  go_wp2_with fail
  refine C.out.mono ?_
  rintro e w2 ⟨rfl, hc, hr, ho⟩
  have HC2 : Hid (Cur w2 g (.slice (some ⟨G, 0, none⟩) 12 12) 8 .nilIface) := hide hc
  have HR2 := hide hr
  have HO2 := hide (HO1.out.trans ho)
  clear C hc hr ho HC1 HR1 HO1
  have C := hide (pass_on1 g G 12 8 w2 HC2.out (by omega) (by omega))
  go_wp2_with fail
  refine C.out.mono ?_
  rintro e w3 ⟨rfl, hc, ho⟩
  have HC3 : Hid (Cur w3 g (.slice (some ⟨G, 0, none⟩) 12 12) 9 .nilIface) := hide hc
  have hr := HR2.out.kept ho (by intro e; cases e; omega)
  rw [rep_one _ _ (by omega)] at hr
  have HR3 := hide hr
  have ho2 : Only [g, G] w2 w3 := (Only.of_some ho).mono (by simp)
  have HO3 := hide (HO2.out.trans ho2)
  clear C hc hr ho ho2 HC2 HR2 HO2
  have C := hide (put_on1 g G 12 9 3 p ([] ++ putL s 4 ++ putL d 4 ++ [0]) _ HC3.out HR3.out hg (by simp [putL_len]) (by omega) (by omega) (by omega))
  go_wp2_with fail
  refine C.out.mono ?_
  rintro e w4 ⟨rfl, hc, hr, ho⟩
  have HC4 : Hid (Cur w4 g (.slice (some ⟨G, 0, none⟩) 12 12) 10 .nilIface) := hide hc
  have HR4 := hide hr
  have HO4 := hide (HO3.out.trans ho)
  clear C hc hr ho HC3 HR3 HO3
  have C := hide (put_on2 g G 12 10 2 l ([] ++ putL s 4 ++ putL d 4 ++ [0] ++ putL p 1) _ HC4.out HR4.out hg (by simp [putL_len]) (by omega) (by omega) (by omega))
  go_wp2_with fail
  refine C.out.mono ?_
  rintro e w5 ⟨rfl, hc, hr, ho⟩
  have HC5 : Hid (Cur w5 g (.slice (some ⟨G, 0, none⟩) 12 12) 12 .nilIface) := hide hc
  have HR5 : Hid (RowB w5 G (fhB s d p l)) := hide (by
    rw [List.replicate_zero, List.append_nil, List.nil_append] at hr
    exact hr)
  have HO5 := hide (HO4.out.trans ho)
  clear C hc hr ho HC4 HR4 HO4
  obtain ⟨c0, c1, c2, cf⟩ := HC5.out.cells
  go_wp2_with fail
  go_ret
  have hgw := HGG.out
  have hbb := HB0.out.trans (Only.below HO5.out (by intro b hb; simp at hb; omega) (by have := HB0.out.size; omega))
  rw [← hgw] at hbb
  exact ⟨G, rfl, by omega, HR5.out, hbb⟩

theorem fhB_eq (s d p l : Int) : (putL s 4 ++ putL d 4) ++ [0, p % 256] ++ putL l 2 = fhB s d p l := by
  unfold fhB
  have e : putL p 1 = [p % 256] := by unfold putL byteOf; simp
  rw [e]
  simp
set_option maxHeartbeats 4000000 in
theorem specFH_walk (s d p l : Int) (w : World) :
    Calls Tryd.prog 83 #[.int .i64 s, .int .i64 d, .int .i64 p, .int .i64 l] w fun e w' => ∃ u : Value, e = .returned u ∧ OwnB w' w.heap.size u (fhB s d p l) ∧ Below w.heap.size w w' := by
  have C1 := hide (fun W => l03Put_any s 4 W (by omega))
  have C2 := hide (fun W => l03Put_any d 4 W (by omega))
  have C3 := hide (fun W => l03Put_any l 2 W (by omega))
  go_enter Tryd.func83, Tryd.ntmps83
  go_wp2_with fail
  refine (C1.out _).mono ?_
  rintro e w1 ⟨u1, rfl, hO1, hb1⟩
  have HO1 := hide hO1
  clear C1 hO1
  go_wp2_with fail
  refine (C2.out _).mono ?_
  rintro e w2 ⟨u2, rfl, hO2, hb2⟩
  have CJ := hide (l01Join_from u1 u2 _ _ w.heap.size _ _ w2 (Nat.le_trans hb1.size hb2.size) (HO1.out.next hb2) hO2 (by rw [putL_len]; omega) (by rw [putL_len]; omega))
  have HB2 := hide (hb1.trans (hb2.mono hb1.size))
  clear C2 hO2 HO1 hb1 hb2
  go_wp2_with fail
  refine CJ.out.mono ?_
  rintro e w3 ⟨u3, rfl, hO3, hb3⟩
  have HB3 := hide (HB2.out.trans (hb3.mono HB2.out.size))
  have HO3 := hide hO3
  clear CJ HB2 hO3 hb3
  have e1 : IntKind.u8.wrap p = p % 256 := IntKind.wrap_u8 p
  have hL : OwnB (w3.alloc (.cells #[.int .u8 0, .int .u8 (p % 256)] 5)) w3.heap.size (.slice (some ⟨w3.heap.size, 0, none⟩) 2 2) [0, p % 256] := litb_own w3 [0, p % 256] (by intro z hz; simp at hz; omega) (by simp)
  have hbl := (Below.refl w3.heap.size w3).alloc (Nat.le_refl _) (.cells #[.int .u8 0, .int .u8 (p % 256)] 5)
  have CJ := hide (l01Join_from u3 (.slice (some ⟨w3.heap.size, 0, none⟩) 2 2) _ _ w.heap.size _ _ _ (Nat.le_trans HB3.out.size hbl.size) (HO3.out.next hbl) hL (by rw [List.length_append, putL_len, putL_len]; omega) (by simp))
  have HB4 := hide (HB3.out.trans (hbl.mono HB3.out.size))
  clear hL hbl HB3 HO3
  go_wp2_with fail
  refine CJ.out.mono ?_
  rintro e w4 ⟨u4, rfl, hO4, hb4⟩
  have HB5 := hide (HB4.out.trans (hb4.mono HB4.out.size))
  have HO4 := hide hO4
  clear CJ HB4 hO4 hb4
  go_wp2_with fail
  refine (C3.out _).mono ?_
  rintro e w5 ⟨u5, rfl, hO5, hb5⟩
  have CJ := hide (l01Join_from u4 u5 _ _ w.heap.size _ _ w5 (Nat.le_trans HB5.out.size hb5.size) (HO4.out.next hb5) hO5 (by simp [putL_len]) (by rw [putL_len]; omega))
  have HB6 := hide (HB5.out.trans (hb5.mono HB5.out.size))
  clear C3 HB5 HO4 hO5 hb5
  go_wp2_with fail
  refine CJ.out.mono ?_
  rintro e w6 ⟨u6, rfl, hO6, hb6⟩
  have HB7 := hide (HB6.out.trans (hb6.mono HB6.out.size))
  rw [fhB_eq] at hO6
  have HO6 := hide hO6
  clear CJ HB6 hO6 hb6
  go_wp2_with fail
  go_ret
  exact ⟨u6, rfl, HO6.out, HB7.out⟩

theorem isPort_walk (a : Int) (w : World) :
    Calls Tryd.prog 70 #[.int .i64 a] w fun e w' => e = .returned (.bool (inB a 0 65535)) ∧ w' = w := by
  by_cases h1 : 0 ≤ a
  · by_cases h2 : a ≤ 65535
    · have e := hide (inB_iff.2 ⟨h1, h2⟩)
      go_enter Tryd.func70, Tryd.ntmps70
      go_wp2
      go_ret
      exact ⟨ret_bool e.out.symm, rfl⟩
    · have e : Hid (inB a 0 65535 = false) := hide (by unfold inB; simp; omega)
      go_enter Tryd.func70, Tryd.ntmps70
      go_wp2
      go_ret
      exact ⟨ret_bool e.out.symm, rfl⟩
  · have e : Hid (inB a 0 65535 = false) := hide (by unfold inB; simp; omega)
    go_enter Tryd.func70, Tryd.ntmps70
    go_wp2
    go_ret
    exact ⟨ret_bool e.out.symm, rfl⟩
theorem specPort_walk (a : Int) (w : World) :
    Calls Tryd.prog 66 #[.int .i64 a] w fun e w' => e = .returned (.bool (inB a 0 65535)) ∧ w' = w := by
  have C := hide (fun W => In_walk a 0 65535 W)
  generalize inB a 0 65535 = B at *
  go_enter Tryd.func66, Tryd.ntmps66
  go_wp2_with (go_at_call 68; refine (C.out _).mono ?_; rintro e w' ⟨rfl, rfl⟩)
  go_ret
  exact ⟨rfl, rfl⟩
/-- A sum as it is written: 0 is no sum. -/
def udW (x : Int) : Int := if x = 0 then 65535 else x
theorem udW_bd {x : Int} (h : 0 ≤ x ∧ x ≤ 65535) : 0 ≤ udW x ∧ udW x ≤ 65535 := by unfold udW; split <;> omega
/-- The sum of bytes with their false head. -/
def fsum (s d p : Int) (zs : List Int) : Int := csum (fhB s d p (zs.length : Int) ++ zs)
theorem fsum_bd (s d p : Int) (zs : List Int) (h : ∀ z ∈ zs, 0 ≤ z ∧ z ≤ 255) : 0 ≤ fsum s d p zs ∧ fsum s d p zs ≤ 65535 :=
  csum_bd _ (by intro z hz; exact (List.mem_append.1 hz).elim (fhB_bd _ _ _ _ z) (h z))
set_option maxHeartbeats 4000000 in
theorem l10Sum_walk (a : Option Addr) (n cap : Nat) (s d p : Int) (zs : List Int) (w : World) (hn : zs.length = n) (ha : Arr w a zs) (hm : n ≤ 1000000) :
    Calls Tryd.prog 37 #[.slice a n cap, .int .i64 s, .int .i64 d, .int .i64 p] w fun e w' => e = .returned (.int .i64 (fsum s d p zs)) ∧ Below w.heap.size w w' := by
  have C1 := hide (fun W => specFH_walk s d p (n : Int) W)
  have HN := hide hn
  have HA := hide ha
  clear hn ha
  go_enter Tryd.func37, Tryd.ntmps37
  go_wp2_with fail
  refine (C1.out _).mono ?_
  rintro e w1 ⟨u1, rfl, hO1, hb1⟩
  have CJ := hide (l01Join_arr u1 a n cap _ w.heap.size _ zs w1 hb1.size hO1 HN.out (HA.out.below hb1 (Nat.le_refl _)) (by rw [fhB_len]; omega) (by omega))
  have HB1 := hide hb1
  clear C1 hO1 hb1
  go_wp2_with fail
  refine CJ.out.mono ?_
  rintro e w2 ⟨u2, rfl, hO2, hb2⟩
  have HB2 := hide (HB1.out.trans (hb2.mono HB1.out.size))
  clear CJ HB1 hb2
  have hl : (fhB s d p (n : Int) ++ zs).length = 12 + n := by rw [List.length_append, fhB_len, HN.out]
  obtain ⟨g, cp, rfl, hg0, hg1⟩ := hO2.form (by omega)
  have CS := hide (specChecksum_walk (some ⟨g, 0, none⟩) _ cp _ w2 rfl (own_arr hO2).1 (by omega))
  have HE : Hid (65535 - fold (psum (fhB s d p (n : Int) ++ zs) (((fhB s d p (n : Int) ++ zs).length + 1) / 2)) = fsum s d p zs) := hide (by unfold fsum csum; rw [HN.out])
  clear hO2
  rw [HE.out] at CS
  rw [hl]
  rw [hl] at CS
  generalize hF : fsum s d p zs = F at *
  have HF := hide hF
  clear hF
  clear HE hl
  go_wp2_with fail
  refine CS.out.mono ?_
  rintro e w3 ⟨rfl, hw3⟩
  rw [hw3]
  clear hw3 CS
  go_wp2_with fail
  go_ret
  exact ⟨ret_int HF.out.symm, HB2.out⟩
set_option maxHeartbeats 4000000 in
theorem sumFH_walk (a : Option Addr) (n cap : Nat) (s d p : Int) (zs : List Int) (w : World) (hn : zs.length = n) (ha : Arr w a zs) (hm : n ≤ 1048576) :
    Calls Tryd.prog 44 #[.slice a n cap, .int .i64 s, .int .i64 d, .int .i64 p] w fun e w' => e = .returned (.int .i64 (fsum s d p zs)) ∧ Below w.heap.size w w' := by
  have C1 := hide (fun W => falseHead_walk s d p (n : Int) W)
  have HN := hide hn
  have HA := hide ha
  clear hn ha
  go_enter Tryd.func44, Tryd.ntmps44
  go_wp2_with fail
  refine (C1.out _).mono ?_
  rintro e w1 ⟨G, rfl, hG, hr, hb1⟩
  have hbl := (Below.refl w1.heap.size w1).alloc (Nat.le_refl _) (.cells #[.slice (some ⟨G, 0, none⟩) 12 12, .slice a n cap] 23)
  have ha2 := (HA.out.below hb1 (Nat.le_refl _)).below hbl (Nat.le_refl _)
  have hr2 := (hr.below hbl hr.lt).arr (fhB_bd s d p (n : Int))
  have HB2 := hide (hb1.trans (hbl.mono hb1.size))
  have e1 : [fhB s d p (n : Int), zs].flatten = fhB s d p (n : Int) ++ zs := by simp
  have hl : (fhB s d p (n : Int) ++ zs).length = 12 + n := by rw [List.length_append, fhB_len, HN.out]
  have hrow := heap_alloc_new w1 (.cells #[.slice (some ⟨G, 0, none⟩) 12 12, .slice a n cap] 23)
  have HC := hide (checksumOf_walk w1.heap.size 0 2 2 [fhB s d p (n : Int), zs] (w1.alloc (.cells #[.slice (some ⟨G, 0, none⟩) 12 12, .slice a n cap] 23)) rfl (by
    intro i hi
    match i with
    | 0 => exact ⟨_, 12, 12, (cell_of_row _ w1.heap.size 0 _ _ _ hrow).trans rfl, fhB_len _ _ _ _, hr2⟩
    | 1 => exact ⟨a, n, cap, (cell_of_row _ w1.heap.size 1 _ _ _ hrow).trans rfl, HN.out, ha2⟩
    | k + 2 => simp at hi; omega) (by rw [e1]; intro z hz; exact (List.mem_append.1 hz).elim (fhB_bd _ _ _ _ z) (HA.out.1 z)) (by rw [e1, hl]; omega) (by omega))
  rw [e1] at HC
  have HE : Hid (65535 - fold (psum (fhB s d p (n : Int) ++ zs) (((fhB s d p (n : Int) ++ zs).length + 1) / 2)) = fsum s d p zs) := hide (by unfold fsum csum; rw [HN.out])
  rw [HE.out] at HC
  generalize hF : fsum s d p zs = F at *
  have HF := hide hF
  clear hF
  clear HE hl e1 hrow hr2 ha2 hbl hr hb1 C1
  go_wp2_with fail
  refine HC.out.mono ?_
  rintro e w3 ⟨rfl, hw3⟩
  rw [hw3]
  clear hw3 HC
  go_wp2_with fail
  go_ret
  exact ⟨ret_int HF.out.symm, HB2.out⟩
end Go.Proofs.YtcnfnimgpiaamaaDoor
