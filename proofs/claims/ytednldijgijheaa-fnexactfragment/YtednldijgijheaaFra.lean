/-
Contracts of functions of this seat.
-/
import Derived.Test.YtednldijgijheaaRows
import Derived.WalkKit
import Derived.ProofKit
import Derived.OpenShut
import Derived.Test.YtednldijgijheaaFrk
import Derived.Test.YtednldijgijheaaLfr
namespace Go.Proofs.Ytednldijgijheaa
open Go.ChangeShapes Go.WideShapes Go.ChangeAt Go.RowKit
set_option linter.unusedVariables false
set_option maxRecDepth 100000
set_option maxHeartbeats 4000000 in
theorem specFrag_form (x0 x1 : Int) (x2 x3 : Bool) (x4 x5 x6 x7 x8 : Int) (a0 : Option Addr) (n0 c0 : Nat) (a1 : Option Addr) (n1 c1 : Nat) (mtu c : Int) (w : World) (h : c ≠ 0 ∨ mtu < 68 ∨ 65535 < mtu)
   (cE : ∀ W, Below w.heap.size w W → Calls Try.prog 14 #[.agg #[.int .i64 x0, .int .i64 x1, .bool x2, .bool x3, .int .i64 x4, .int .i64 x5, .int .i64 x6, .int .i64 x7, .int .i64 x8, .slice a0 n0 c0, .slice a1 n1 c1]] W fun e w' => ∃ v, e = .returned (.tuple #[v, .int .i64 c]) ∧ Below W.heap.size W w') :
    Calls Try.prog 5 #[.agg #[.int .i64 x0, .int .i64 x1, .bool x2, .bool x3, .int .i64 x4, .int .i64 x5, .int .i64 x6, .int .i64 x7, .int .i64 x8, .slice a0 n0 c0, .slice a1 n1 c1], .int .i64 mtu] w fun e w' => e = .returned (.tuple #[.slice none 0 0, .int .i64 1]) ∧ Below w.heap.size w w' := by
  have HB := hide (BoxPacket.start w x0 x1 x2 x3 x4 x5 x6 x7 x8 (.slice a0 n0 c0) (.slice a1 n1 c1) 29)
  have CE := hide cE
  clear cE
  obtain ⟨_, _, k0, k1, k2, k3, k4, k5, k6, k7, k8, k9, k10⟩ := HB.out
  by_cases hc : c = 0
  · subst hc
    by_cases h1 : mtu < 68
    · clear h
      go_enter Try.func5, Try.ntmps5
      go_wp2_with fail
      refine (CE.out _ HB.out.1).mono ?_
      rintro e w1 ⟨v, rfl, hb1⟩
      have HB1 := hide (HB.out.next hb1)
      clear k0 k1 k2 k3 k4 k5 k6 k7 k8 k9 k10 HB hb1 CE
      go_wp2_with fail
      go_ret2
      exact ⟨rfl, HB1.out.1⟩
    · have h2 : 65535 < mtu := by omega
      have h3 : decide (mtu < 68) = false := decide_eq_false h1
      clear h
      go_enter Try.func5, Try.ntmps5
      go_wp2_with fail
      refine (CE.out _ HB.out.1).mono ?_
      rintro e w1 ⟨v, rfl, hb1⟩
      have HB1 := hide (HB.out.next hb1)
      clear k0 k1 k2 k3 k4 k5 k6 k7 k8 k9 k10 HB hb1 CE
      go_wp2_with fail
      go_ret2
      exact ⟨rfl, HB1.out.1⟩
  · have hc1 : (c != 0) = true := by simpa using hc
    clear h hc
    go_enter Try.func5, Try.ntmps5
    go_wp2_with fail
    refine (CE.out _ HB.out.1).mono ?_
    rintro e w1 ⟨v, rfl, hb1⟩
    have HB1 := hide (HB.out.next hb1)
    clear k0 k1 k2 k3 k4 k5 k6 k7 k8 k9 k10 HB hb1 CE
    go_wp2_with fail
    go_ret2
    exact ⟨rfl, HB1.out.1⟩
set_option maxHeartbeats 4000000 in
theorem specFrag_size (x0 x1 : Int) (x2 x3 : Bool) (x4 x5 x6 x7 x8 : Int) (a0 : Option Addr) (n0 c0 : Nat) (a1 : Option Addr) (n1 c1 : Nat) (mtu : Int) (w : World) (m0 : n0 ≤ 1048576) (hm1 : 68 ≤ mtu) (hm2 : mtu ≤ 65535) (hs : decide (20 + (n0 : Int) + (n1 : Int) ≤ mtu) = false) (hn0 : n0 ≤ 40) (h : x2 = true ∨ (mtu - 20 - (n0 : Int)) / 8 * 8 < 8)
   (cE : ∀ W, Below w.heap.size w W → Calls Try.prog 14 #[.agg #[.int .i64 x0, .int .i64 x1, .bool x2, .bool x3, .int .i64 x4, .int .i64 x5, .int .i64 x6, .int .i64 x7, .int .i64 x8, .slice a0 n0 c0, .slice a1 n1 c1]] W fun e w' => ∃ v, e = .returned (.tuple #[v, .int .i64 0]) ∧ Below W.heap.size W w')
   (cP : ∀ W, Below w.heap.size w W → Calls Try.prog 15 #[.agg #[.int .i64 x0, .int .i64 x1, .bool x2, .bool x3, .int .i64 x4, .int .i64 x5, .int .i64 x6, .int .i64 x7, .int .i64 x8, .slice a0 n0 c0, .slice a1 n1 c1]] W fun e w' => e = .returned (.int .i64 (20 + (n0 : Int) + (n1 : Int))) ∧ Below W.heap.size W w') :
    Calls Try.prog 5 #[.agg #[.int .i64 x0, .int .i64 x1, .bool x2, .bool x3, .int .i64 x4, .int .i64 x5, .int .i64 x6, .int .i64 x7, .int .i64 x8, .slice a0 n0 c0, .slice a1 n1 c1], .int .i64 mtu] w fun e w' => e = .returned (.tuple #[.slice none 0 0, .int .i64 7]) ∧ Below w.heap.size w w' := by
  have HB := hide (BoxPacket.start w x0 x1 x2 x3 x4 x5 x6 x7 x8 (.slice a0 n0 c0) (.slice a1 n1 c1) 29)
  have CE := hide cE
  have CP := hide cP
  clear cE cP
  obtain ⟨_, _, k0, k1, k2, k3, k4, k5, k6, k7, k8, k9, k10⟩ := HB.out
  cases x2 with
  | true =>
    clear h
    go_enter Try.func5, Try.ntmps5
    go_wp2_with fail
    refine (CE.out _ HB.out.1).mono ?_
    rintro e w1 ⟨v, rfl, hb1⟩
    have HB1 := hide (HB.out.next hb1)
    clear k0 k1 k2 k3 k4 k5 k6 k7 k8 k9 k10 HB hb1
    obtain ⟨_, _, k0, k1, k2, k3, k4, k5, k6, k7, k8, k9, k10⟩ := HB1.out
    go_wp2_with fail
    refine (CP.out _ HB1.out.1).mono ?_
    rintro e w2 ⟨rfl, hb2⟩
    have HB2 := hide (HB1.out.next hb2)
    clear k0 k1 k2 k3 k4 k5 k6 k7 k8 k9 k10 HB1 hb2 CE CP
    obtain ⟨_, _, k0, k1, k2, k3, k4, k5, k6, k7, k8, k9, k10⟩ := HB2.out
    go_wp2_with fail
    go_ret2
    exact ⟨rfl, HB2.out.1⟩
  | false =>
    have hn : (mtu - 20 - (n0 : Int)) / 8 * 8 < 8 := by rcases h with h | h; cases h; exact h
    omega
set_option maxHeartbeats 4000000 in
theorem specFrag_whole (x0 x1 : Int) (x2 x3 : Bool) (x4 x5 x6 x7 x8 : Int) (a0 : Option Addr) (n0 c0 : Nat) (a1 : Option Addr) (n1 c1 : Nat) (z0 z1 : List Int) (mtu : Int) (w : World) (h0n : z0.length = n0) (h0a : Arr w a0 z0) (m0 : n0 ≤ 1048576) (h1n : z1.length = n1) (h1a : Arr w a1 z1) (m1 : n1 ≤ 1048576) (hm1 : 68 ≤ mtu) (hm2 : mtu ≤ 65535) (hs : 20 + (n0 : Int) + (n1 : Int) ≤ mtu)
   (cE : ∀ W, Below w.heap.size w W → Calls Try.prog 14 #[.agg #[.int .i64 x0, .int .i64 x1, .bool x2, .bool x3, .int .i64 x4, .int .i64 x5, .int .i64 x6, .int .i64 x7, .int .i64 x8, .slice a0 n0 c0, .slice a1 n1 c1]] W fun e w' => ∃ v, e = .returned (.tuple #[v, .int .i64 0]) ∧ Below W.heap.size W w')
   (cP : ∀ W, Below w.heap.size w W → Calls Try.prog 15 #[.agg #[.int .i64 x0, .int .i64 x1, .bool x2, .bool x3, .int .i64 x4, .int .i64 x5, .int .i64 x6, .int .i64 x7, .int .i64 x8, .slice a0 n0 c0, .slice a1 n1 c1]] W fun e w' => e = .returned (.int .i64 (20 + (n0 : Int) + (n1 : Int))) ∧ Below W.heap.size W w') :
    Calls Try.prog 5 #[.agg #[.int .i64 x0, .int .i64 x1, .bool x2, .bool x3, .int .i64 x4, .int .i64 x5, .int .i64 x6, .int .i64 x7, .int .i64 x8, .slice a0 n0 c0, .slice a1 n1 c1], .int .i64 mtu] w fun e w' => ∃ v, e = .returned (.tuple #[v, .int .i64 0]) ∧ RowsOf w' (w.heap.size + 1) 29 11 v 1 (dPacket ⟨x0, x1, x2, x3, x4, x5, x6, x7, x8, z0, z1⟩) ∧ Below w.heap.size w w' := by
  have HB := hide (BoxPacket.start w x0 x1 x2 x3 x4 x5 x6 x7 x8 (.slice a0 n0 c0) (.slice a1 n1 c1) 29)
  have CE := hide cE
  have CP := hide cP
  have CY := hide (fun W (hb : Below w.heap.size w W) => l06Copy_walk x0 x1 x2 x3 x4 x5 x6 x7 x8 a0 n0 c0 a1 n1 c1 z0 z1 W h0n (h0a.below hb (Nat.le_refl _)) m0 h1n (h1a.below hb (Nat.le_refl _)) m1)
  clear cE cP h0a h1a h0n h1n
  obtain ⟨_, _, k0, k1, k2, k3, k4, k5, k6, k7, k8, k9, k10⟩ := HB.out
  go_enter Try.func5, Try.ntmps5
  go_wp2_with fail
  refine (CE.out _ HB.out.1).mono ?_
  rintro e w1 ⟨v, rfl, hb1⟩
  have HB1 := hide (HB.out.next hb1)
  clear k0 k1 k2 k3 k4 k5 k6 k7 k8 k9 k10 HB hb1
  obtain ⟨_, _, k0, k1, k2, k3, k4, k5, k6, k7, k8, k9, k10⟩ := HB1.out
  go_wp2_with fail
  refine (CP.out _ HB1.out.1).mono ?_
  rintro e w2 ⟨rfl, hb2⟩
  have HB2 := hide (HB1.out.next hb2)
  clear k0 k1 k2 k3 k4 k5 k6 k7 k8 k9 k10 HB1 hb2 CE CP
  obtain ⟨_, _, k0, k1, k2, k3, k4, k5, k6, k7, k8, k9, k10⟩ := HB2.out
  go_wp2_with fail
  refine (CY.out _ HB2.out.1).mono ?_
  rintro e w3 ⟨v0, v1, rfl, hO0, hO1, hap, hb3⟩
  obtain ⟨b0, d0, rfl, _⟩ := own_slice hO0
  obtain ⟨b1, d1, rfl, _⟩ := own_slice hO1
  have HB3 := hide (HB2.out.next hb3)
  have hsz := HB2.out.2.1
  have hz3 := hb3.size
  have HO0 := hide hO0
  have HO1 := hide hO1
  have HAP := hide hap
  clear k0 k1 k2 k3 k4 k5 k6 k7 k8 k9 k10 HB2 hb3 hO0 hO1 hap
  obtain ⟨p0, hp0⟩ : ∃ p, p = z0.length := ⟨_, rfl⟩
  obtain ⟨p1, hp1⟩ : ∃ p, p = z1.length := ⟨_, rfl⟩
  rw [← hp0] at HO0 HAP ⊢
  rw [← hp1] at HO1 HAP ⊢
  clear hp0 hp1
  go_wp2_with fail
  go_ret2
  have hal := (Below.refl w3.heap.size w3).alloc (Nat.le_refl _) (.cells #[.int .i64 x0, .int .i64 x1, .bool x2, .bool x3, .int .i64 x4, .int .i64 x5, .int .i64 x6, .int .i64 x7, .int .i64 x8, .slice b0 p0 d0, .slice b1 p1 d1] 29)
  have hN := holdsPk (o := ⟨x0, x1, x2, x3, x4, x5, x6, x7, x8, z0, z1⟩) ((HO0.out.mono (show w.heap.size + 1 ≤ w2.heap.size + 2 by omega)).next hal) ((HO1.out.mono (show w.heap.size + 1 ≤ w2.heap.size + 2 by omega)).next hal)
  refine ⟨_, rfl, ⟨_, _, World.ownsRow_lit (base := w.heap.size + 1) (e := 29) (size := 11) w3 #[.int .i64 x0, .int .i64 x1, .bool x2, .bool x3, .int .i64 x4, .int .i64 x5, .int .i64 x6, .int .i64 x7, .int .i64 x8, .slice b0 p0 d0, .slice b1 p1 d1] 1 (by omega) (by decide) rfl, hN, ?_⟩, (HB3.out.next hal).1⟩
  rw [List.nodup_append]
  refine ⟨by simp [Value.ownBlock], nodupPk HAP.out, fun g hg q hq e => ?_⟩
  subst e
  have hg' : g = w3.heap.size := by simpa [Value.ownBlock] using hg
  rcases List.mem_append.1 hq with h | h
  · have := own_lt HO0.out g (by simpa using h); omega
  · have := own_lt HO1.out g (by simpa using h); omega
/-- What Fragment answers: the code. -/
def fgC (x0 x1 : Int) (x2 : Bool) (x4 x5 x6 x7 x8 : Int) (n0 n1 : Nat) (mtu : Int) : Int := if ipC x0 x1 x4 x5 x6 x7 x8 n0 n1 ≠ 0 ∨ mtu < 68 ∨ 65535 < mtu then 1 else if 20 + (n0 : Int) + (n1 : Int) ≤ mtu then 0 else if x2 = true then 7 else 0
/-- .. and the packets. -/
def fgO (p : PacketM) (mtu : Int) : List PacketM := if fgC p.f0 p.f1 p.f2 p.f4 p.f5 p.f6 p.f7 p.f8 p.f9.length p.f10.length mtu ≠ 0 then [] else if 20 + (p.f9.length : Int) + (p.f10.length : Int) ≤ mtu then [p] else frs p (frN p.f9.length mtu) (frM p.f10.length (frN p.f9.length mtu))
/-- Fragment of the model. -/
theorem specFrag (x0 x1 : Int) (x2 x3 : Bool) (x4 x5 x6 x7 x8 : Int) (z0 z1 : List Int) (mtu : Int) (Pre : World → Prop) (hpre : ∀ (w w' : World), Pre w → Below w.heap.size w w' → Pre w') : RowFragmentP 5 Pre x0 x1 x2 x3 x4 x5 x6 x7 x8 z0 z1 mtu (fgO ⟨x0, x1, x2, x3, x4, x5, x6, x7, x8, z0, z1⟩ mtu) (fgC x0 x1 x2 x4 x5 x6 x7 x8 z0.length z1.length mtu) := by
  intro a0 n0 c0 a1 n1 c1 W h0n h0a k0 m0 h1n h1a k1 m1 hp
  subst h0n h1n
  have cE := fun (V : World) (hb : Below W.heap.size W V) => specEncIP x0 x1 x2 x3 x4 x5 x6 x7 x8 z0 z1 Pre a0 _ c0 a1 _ c1 V rfl (h0a.below hb (Nat.le_refl _)) k0 m0 rfl (h1a.below hb (Nat.le_refl _)) k1 m1 (hpre W V hp hb)
  have cP := fun (V : World) (hb : Below W.heap.size W V) => specSizeIP x0 x1 x2 x3 x4 x5 x6 x7 x8 z0 z1 Pre a0 _ c0 a1 _ c1 V rfl (h0a.below hb (Nat.le_refl _)) k0 m0 rfl (h1a.below hb (Nat.le_refl _)) k1 m1 (hpre W V hp hb)
  have hCd : fgC x0 x1 x2 x4 x5 x6 x7 x8 z0.length z1.length mtu = if ipC x0 x1 x4 x5 x6 x7 x8 z0.length z1.length ≠ 0 ∨ mtu < 68 ∨ 65535 < mtu then 1 else if 20 + (z0.length : Int) + (z1.length : Int) ≤ mtu then 0 else if x2 = true then 7 else 0 := rfl
  have hOd : fgO ⟨x0, x1, x2, x3, x4, x5, x6, x7, x8, z0, z1⟩ mtu = if fgC x0 x1 x2 x4 x5 x6 x7 x8 z0.length z1.length mtu ≠ 0 then [] else if 20 + (z0.length : Int) + (z1.length : Int) ≤ mtu then [⟨x0, x1, x2, x3, x4, x5, x6, x7, x8, z0, z1⟩] else frs ⟨x0, x1, x2, x3, x4, x5, x6, x7, x8, z0, z1⟩ (frN z0.length mtu) (frM z1.length (frN z0.length mtu)) := rfl
  have bad : ∀ c : Int, fgC x0 x1 x2 x4 x5 x6 x7 x8 z0.length z1.length mtu = c → ¬ c = 0 → ∀ e w', e = Ending.returned (.tuple #[.slice none 0 0, .int .i64 c]) ∧ Below W.heap.size W w' → ∃ (v : Value) (bs : List Nat), e = .returned (.tuple #[v, .int .i64 (fgC x0 x1 x2 x4 x5 x6 x7 x8 z0.length z1.length mtu)]) ∧ Holds w' W.heap.size (dPacketS (fgO ⟨x0, x1, x2, x3, x4, x5, x6, x7, x8, z0, z1⟩ mtu)) v bs ∧ bs.Nodup ∧ Below W.heap.size W w' := by
    rintro c hc h0 e w' ⟨rfl, hb⟩
    rw [hOd, hc, if_pos h0]
    exact ⟨_, [], rfl, holds_none, by simp, hb⟩
  by_cases h1 : ipC x0 x1 x4 x5 x6 x7 x8 z0.length z1.length ≠ 0 ∨ mtu < 68 ∨ 65535 < mtu
  · refine (specFrag_form x0 x1 x2 x3 x4 x5 x6 x7 x8 a0 _ c0 a1 _ c1 mtu _ W h1 (fun V hb => (cE V hb).mono ?_)).mono (bad 1 (by rw [hCd, if_pos h1]) (by decide))
    rintro e w' ⟨v, rfl, _, hb⟩
    exact ⟨v, rfl, hb⟩
  · have hI : ipC x0 x1 x4 x5 x6 x7 x8 z0.length z1.length = 0 := by
      by_cases h : ipC x0 x1 x4 x5 x6 x7 x8 z0.length z1.length = 0
      · exact h
      · exact absurd (Or.inl h) h1
    have hm1 : 68 ≤ mtu := by
      by_cases h : mtu < 68
      · exact absurd (Or.inr (Or.inl h)) h1
      · omega
    have hm2 : mtu ≤ 65535 := by
      by_cases h : 65535 < mtu
      · exact absurd (Or.inr (Or.inr h)) h1
      · omega
    have hok : pkOK x0 x1 x4 x5 x6 x7 x8 z0.length = true := by
      cases h : pkOK x0 x1 x4 x5 x6 x7 x8 z0.length with
      | true => rfl
      | false => unfold ipC at hI; rw [h] at hI; cases hI
    obtain ⟨_, _, b4, _, _, _, _, l0, l1, l2⟩ := pkOK_parts hok
    have hN : ipN x0 x1 x4 x5 x6 x7 x8 z0.length z1.length = 20 + (z0.length : Int) + (z1.length : Int) := by unfold ipN; rw [hok]; rfl
    have cE' : ∀ V, Below W.heap.size W V → Calls Try.prog 14 #[.agg #[.int .i64 x0, .int .i64 x1, .bool x2, .bool x3, .int .i64 x4, .int .i64 x5, .int .i64 x6, .int .i64 x7, .int .i64 x8, .slice a0 z0.length c0, .slice a1 z1.length c1]] V fun e w' => ∃ v, e = .returned (.tuple #[v, .int .i64 0]) ∧ Below V.heap.size V w' := fun V hb => (cE V hb).mono (by
      rintro e w' ⟨v, rfl, _, hb'⟩
      exact ⟨v, by rw [hI], hb'⟩)
    have cP' : ∀ V, Below W.heap.size W V → Calls Try.prog 15 #[.agg #[.int .i64 x0, .int .i64 x1, .bool x2, .bool x3, .int .i64 x4, .int .i64 x5, .int .i64 x6, .int .i64 x7, .int .i64 x8, .slice a0 z0.length c0, .slice a1 z1.length c1]] V fun e w' => e = .returned (.int .i64 (20 + (z0.length : Int) + (z1.length : Int))) ∧ Below V.heap.size V w' := fun V hb => by have h := cP V hb; rw [hN] at h; exact h
    by_cases hs : 20 + (z0.length : Int) + (z1.length : Int) ≤ mtu
    · have hC : fgC x0 x1 x2 x4 x5 x6 x7 x8 z0.length z1.length mtu = 0 := by rw [hCd, if_neg h1, if_pos hs]
      refine (specFrag_whole x0 x1 x2 x3 x4 x5 x6 x7 x8 a0 _ c0 a1 _ c1 z0 z1 mtu W rfl h0a m0 rfl h1a m1 hm1 hm2 hs cE' cP').mono ?_
      rintro e w' ⟨v, rfl, hr, hb⟩
      obtain ⟨bs, hh, hn⟩ := hr.holds
      rw [hOd, hC, if_neg (by decide), if_pos hs]
      exact ⟨v, bs, rfl, Holds.down (Nat.le_succ _) _ _ _ hh, hn, hb⟩
    · cases x2 with
      | true =>
        exact (specFrag_size x0 x1 true x3 x4 x5 x6 x7 x8 a0 _ c0 a1 _ c1 mtu W m0 hm1 hm2 (decide_eq_false hs) l0 (.inl rfl) cE' cP').mono (bad 7 (by rw [hCd, if_neg h1, if_neg hs]; rfl) (by decide))
      | false =>
        have hC : fgC x0 x1 false x4 x5 x6 x7 x8 z0.length z1.length mtu = 0 := by rw [hCd, if_neg h1, if_neg hs]; rfl
        obtain ⟨b, off, rfl, _⟩ := h1a.2 0 (by omega)
        have hf : (mtu - 20 - (z0.length : Int)) / 8 * 8 = ((frN z0.length mtu : Nat) : Int) := by unfold frN; omega
        refine (specFrag_cut x0 x1 x3 x4 x5 x6 x7 x8 a0 _ c0 b off _ c1 z0 z1 mtu W rfl h0a m0 rfl h1a m1 k1 b4.1 b4.2 hm1 hm2 (decide_eq_false hs) (frN z0.length mtu) hf (by omega) (by omega) cE' cP').mono ?_
        rintro e w' ⟨v, rfl, hr, hb⟩
        obtain ⟨bs, hh, hn⟩ := hr.holds
        rw [hOd, hC, if_neg (by decide), if_neg hs]
        have e2 : dPacketS (frs ⟨x0, x1, false, x3, x4, x5, x6, x7, x8, z0, z1⟩ (frN z0.length mtu) (frM z1.length (frN z0.length mtu))) = .s 29 11 (frM z1.length (frN z0.length mtu)) ((frs ⟨x0, x1, false, x3, x4, x5, x6, x7, x8, z0, z1⟩ (frN z0.length mtu) (frM z1.length (frN z0.length mtu))).flatMap dPacket) := by unfold dPacketS; rw [frs_len]
        rw [e2]
        exact ⟨v, bs, rfl, Holds.down (Nat.le_succ _) _ _ _ hh, hn, hb⟩
end Go.Proofs.Ytednldijgijheaa
