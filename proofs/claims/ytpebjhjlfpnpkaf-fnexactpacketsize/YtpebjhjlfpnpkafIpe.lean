/-
Contracts of functions of this seat.
-/
import Derived.Test.YtpebjhjlfpnpkafRows
import Derived.WalkKit
import Derived.ProofKit
import Derived.OpenShut
import Derived.Test.YtpebjhjlfpnpkafIpk
namespace Go.Proofs.Ytpebjhjlfpnpkaf
open Go.ChangeShapes Go.WideShapes Go.ChangeAt Go.RowKit
set_option linter.unusedVariables false
set_option maxRecDepth 100000
/-- The sum of numbers of two bytes with its carries added at the low end. -/
def fold (s : Int) : Int := if s = 0 then 0 else (s - 1) % 65535 + 1
theorem fold_small (s : Int) (h0 : 0 ≤ s) (h1 : s ≤ 65535) : fold s = s := by unfold fold; split <;> omega
theorem fold_bd (s : Int) (h0 : 0 ≤ s) : 0 ≤ fold s ∧ fold s ≤ 65535 := by unfold fold; split <;> omega
theorem fold_shift (s : Int) (h : 65535 < s) : fold (s / 65536 + s % 65536) = fold s := by
  unfold fold; rw [if_neg (by omega), if_neg (by omega)]; omega
theorem fold_sub (s : Int) (h : 65535 < s) : fold (s - 65535) = fold s := by
  unfold fold; rw [if_neg (by omega), if_neg (by omega)]; omega

attribute [local go_sem] and_65535_u64 signed_u16 wrap_u16 not_u16
/-- The sum of the first k numbers of two bytes; behind the last byte stand zeros. -/
def psum (zs : List Int) : Nat → Int
  | 0 => 0
  | k + 1 => psum zs k + (zs.getD (2 * k) 0 * 256 + zs.getD (2 * k + 1) 0)
theorem psum_bd {zs : List Int} (h : ∀ z ∈ zs, 0 ≤ z ∧ z ≤ 255) : ∀ k : Nat, 0 ≤ psum zs k ∧ psum zs k ≤ 65535 * (k : Int)
  | 0 => by simp [psum]
  | k + 1 => by
    have h1 := psum_bd h k
    have h2 := getD_bd h (2 * k)
    have h3 := getD_bd h (2 * k + 1)
    simp only [psum]; omega
theorem psum_odd {zs : List Int} {n : Nat} (hn : zs.length = n) (ho : n % 2 = 1) : psum zs ((n + 1) / 2) = psum zs (n / 2) + zs.getD (n - 1) 0 * 256 := by
  have e : (n + 1) / 2 = n / 2 + 1 := by omega
  rw [e, psum, show 2 * (n / 2) = n - 1 by omega]
  have : zs.getD (n - 1 + 1) 0 = 0 := by rw [List.getD_eq_getElem?_getD, List.getElem?_eq_none (by omega)]; rfl
  rw [this]; omega
theorem fold_add (S x : Int) (hS : 0 ≤ S) (h0 : 0 ≤ x) (h1 : x ≤ 65535) : fold (S + x) = if 65535 < fold S + x then fold S + x - 65535 else fold S + x := by
  unfold fold
  by_cases hs : S = 0
  · subst hs
    by_cases hx : x = 0
    · subst hx; simp
    · rw [if_neg (by omega)]; simp; split <;> omega
  · rw [if_neg (by omega), if_neg hs]
    split <;> omega

theorem Arr.at {w : World} {a : Option Addr} {zs : List Int} (h : Arr w a zs) {j : Nat} {b off : Nat} (ha : a = some ⟨b, off, none⟩) (hj : j < zs.length) : w.cell? ⟨b, off + j, none⟩ = some (.int .u8 (zs.getD j 0)) := by
  obtain ⟨b', off', e, _, hc⟩ := h.2 j hj
  rw [ha] at e
  simp only [Option.some.injEq, Addr.mk.injEq, and_true] at e
  obtain ⟨rfl, rfl⟩ := e
  exact hc
theorem lit_own (w : World) (zs : List Int) (hz : ∀ z ∈ zs, 0 ≤ z ∧ z ≤ 255) (hm : zs.length ≤ 1048576) : OwnB (w.alloc (.cells (bval zs).toArray 5)) w.heap.size (.slice (some ⟨w.heap.size, 0, none⟩) zs.length zs.length) zs :=
  ⟨⟨by unfold bval; simp, .inr ⟨w.heap.size, zs.length, _, rfl, Nat.le_refl _, heap_alloc_new _ _, Nat.le_refl _, by unfold maxLen; omega, by simp [bval], by rw [Nat.mul_one]; exact List.take_of_length_le (by simp [bval])⟩⟩, hz⟩
/-- The head of a packet, its sum not yet in it. -/
def ipH (x0 x1 : Int) (x2 x3 : Bool) (x4 x5 x6 x7 x8 : Int) (z0 : List Int) (n1 : Nat) : List Int :=
  [64 + (20 + (z0.length : Int)) / 4, x0] ++ putL (20 + (z0.length : Int) + (n1 : Int)) 2 ++ putL x1 2 ++ putL ((if x2 then 16384 else 0) + (if x3 then 8192 else 0) + x4 / 8) 2 ++ [x5, x6, 0, 0] ++ putL x7 4 ++ putL x8 4 ++ z0
def csum (zs : List Int) : Int := 65535 - fold (psum zs ((zs.length + 1) / 2))
theorem csum_bd (zs : List Int) (h : ∀ z ∈ zs, 0 ≤ z ∧ z ≤ 255) : 0 ≤ csum zs ∧ csum zs ≤ 65535 := by
  have hf := fold_bd (psum zs ((zs.length + 1) / 2)) (psum_bd h _).1
  unfold csum
  omega
def ipHead (x0 x1 : Int) (x2 x3 : Bool) (x4 x5 x6 x7 x8 : Int) (z0 : List Int) (n1 : Nat) : List Int :=
  ((ipH x0 x1 x2 x3 x4 x5 x6 x7 x8 z0 n1).set 10 (csum (ipH x0 x1 x2 x3 x4 x5 x6 x7 x8 z0 n1) / 256)).set 11 (csum (ipH x0 x1 x2 x3 x4 x5 x6 x7 x8 z0 n1) % 256)
/-- What EncodeIP tells. -/
def ipC (x0 x1 x4 x5 x6 x7 x8 : Int) (n0 n1 : Nat) : Int := if pkOK x0 x1 x4 x5 x6 x7 x8 n0 then (if 65535 < 20 + (n0 : Int) + (n1 : Int) ∨ 65535 < x4 + (n1 : Int) then 7 else 0) else 1
def ipL (x0 x1 : Int) (x2 x3 : Bool) (x4 x5 x6 x7 x8 : Int) (z0 z1 : List Int) : List Int := if ipC x0 x1 x4 x5 x6 x7 x8 z0.length z1.length = 0 then ipHead x0 x1 x2 x3 x4 x5 x6 x7 x8 z0 z1.length ++ z1 else []
theorem pkOK_parts {x0 x1 x4 x5 x6 x7 x8 : Int} {n0 : Nat} (h : pkOK x0 x1 x4 x5 x6 x7 x8 n0 = true) : (0 ≤ x0 ∧ x0 ≤ 255) ∧ (0 ≤ x1 ∧ x1 ≤ 65535) ∧ (0 ≤ x4 ∧ x4 ≤ 65528) ∧ (0 ≤ x5 ∧ x5 ≤ 255) ∧ (0 ≤ x6 ∧ x6 ≤ 255) ∧ (0 ≤ x7 ∧ x7 ≤ 4294967295) ∧ (0 ≤ x8 ∧ x8 ≤ 4294967295) ∧ n0 ≤ 40 ∧ n0 % 4 = 0 ∧ x4 % 8 = 0 := by
  unfold pkOK at h
  simp only [Bool.and_eq_true, decide_eq_true_eq, beq_iff_eq, inB_iff, adrB_iff] at h
  obtain ⟨⟨⟨⟨⟨⟨⟨⟨⟨a, b⟩, c⟩, d⟩, e⟩, f⟩, g⟩, i⟩, j⟩, k⟩ := h
  exact ⟨a, d, e, b, c, g, i, j, k, f⟩
theorem ipH_len (x0 x1 : Int) (x2 x3 : Bool) (x4 x5 x6 x7 x8 : Int) (z0 : List Int) (n1 : Nat) : (ipH x0 x1 x2 x3 x4 x5 x6 x7 x8 z0 n1).length = 20 + z0.length := by unfold ipH; simp [putL_len]; omega
theorem ipHead_len (x0 x1 : Int) (x2 x3 : Bool) (x4 x5 x6 x7 x8 : Int) (z0 : List Int) (n1 : Nat) : (ipHead x0 x1 x2 x3 x4 x5 x6 x7 x8 z0 n1).length = 20 + z0.length := by unfold ipHead; rw [List.length_set, List.length_set, ipH_len]
/-- PacketSize of the specification. -/
def ipN (x0 x1 x4 x5 x6 x7 x8 : Int) (n0 n1 : Nat) : Int := if pkOK x0 x1 x4 x5 x6 x7 x8 n0 then 20 + (n0 : Int) + (n1 : Int) else 0
theorem specSizeIP (x0 x1 : Int) (x2 x3 : Bool) (x4 x5 x6 x7 x8 : Int) (z0 z1 : List Int) (Pre : World → Prop) : NumPacketP 5 Pre x0 x1 x2 x3 x4 x5 x6 x7 x8 z0 z1 (ipN x0 x1 x4 x5 x6 x7 x8 z0.length z1.length) := by
  intro a0 n0 c0 a1 n1 c1 w h0n h0a k0 m0 h1n h1a k1 m1 _
  have HB := hide (BoxPacket.start w x0 x1 x2 x3 x4 x5 x6 x7 x8 (.slice a0 n0 c0) (.slice a1 n1 c1) 27)
  have CK := hide (fun W => l05OK_walk x0 x1 x2 x3 x4 x5 x6 x7 x8 a0 n0 c0 a1 n1 c1 W m0)
  rw [h0n, h1n]
  unfold ipN
  obtain ⟨_, _, d0, d1, d2, d3, d4, d5, d6, d7, d8, d9, d10⟩ := HB.out
  clear h0a h1a h0n h1n
  cases h : pkOK x0 x1 x4 x5 x6 x7 x8 n0 with
  | false =>
    rw [h] at CK
    rw [if_neg (by decide)]
    clear h
    go_enter Try.func5, Try.ntmps5
    go_wp2_with fail
    refine (CK.out _).mono ?_
    rintro e w1 ⟨rfl, hb1⟩
    go_wp2_with fail
    go_ret
    exact ⟨rfl, (HB.out.next hb1).1⟩
  | true =>
    rw [h] at CK
    rw [if_pos rfl]
    clear h
    go_enter Try.func5, Try.ntmps5
    go_wp2_with fail
    refine (CK.out _).mono ?_
    rintro e w1 ⟨rfl, hb1⟩
    have HB1 := hide (HB.out.next hb1)
    clear hb1 HB d0 d1 d2 d3 d4 d5 d6 d7 d8 d9 d10
    obtain ⟨_, _, d0, d1, d2, d3, d4, d5, d6, d7, d8, d9, d10⟩ := HB1.out
    go_wp2_with fail
    go_ret
    exact ⟨rfl, HB1.out.1⟩
end Go.Proofs.Ytpebjhjlfpnpkaf
