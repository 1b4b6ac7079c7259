/-
Contracts of functions of this seat.
-/
import Derived.Test.YtednldijgijheaaRows
import Derived.WalkKit
import Derived.ProofKit
import Derived.OpenShut
import Derived.Test.YtednldijgijheaaCut
import Derived.Test.YtednldijgijheaaIpf
import Derived.Test.YtednldijgijheaaFra
namespace Go.Proofs.Ytednldijgijheaa
open Go.ChangeShapes Go.WideShapes Go.ChangeAt Go.RowKit
set_option linter.unusedVariables false
set_option maxRecDepth 100000
set_option maxHeartbeats 2000000 in
theorem implFrag_form (x0 x1 : Int) (x2 x3 : Bool) (x4 x5 x6 x7 x8 : Int) (a0 : Option Addr) (n0 c0 : Nat) (a1 : Option Addr) (n1 c1 : Nat) (mtu : Int) (w : World) (m0 : n0 ≤ 1048576) (m1 : n1 ≤ 1048576) (h : encB x0 x1 x4 x5 x6 x7 x8 n0 n1 = false ∨ mtu < 68 ∨ 65535 < mtu) :
    Calls Try.prog 7 #[.agg #[.int .i64 x0, .int .i64 x1, .bool x2, .bool x3, .int .i64 x4, .int .i64 x5, .int .i64 x6, .int .i64 x7, .int .i64 x8, .slice a0 n0 c0, .slice a1 n1 c1], .int .i64 mtu] w fun e w' => e = .returned (.tuple #[.slice none 0 0, .int .i64 1]) ∧ Below w.heap.size w w' := by
  have HB := hide (BoxPacket.start w x0 x1 x2 x3 x4 x5 x6 x7 x8 (.slice a0 n0 c0) (.slice a1 n1 c1) 29)
  have CE := hide (fun W => encodes_walk x0 x1 x2 x3 x4 x5 x6 x7 x8 a0 n0 c0 a1 n1 c1 W m0 m1)
  obtain ⟨_, _, k0, k1, k2, k3, k4, k5, k6, k7, k8, k9, k10⟩ := HB.out
  cases he : encB x0 x1 x4 x5 x6 x7 x8 n0 n1 with
  | false =>
    rw [he] at CE
    clear h
    go_enter Try.func7, Try.ntmps7
    go_wp2_with fail
    refine (CE.out _).mono ?_
    rintro e w1 ⟨rfl, hb1⟩
    go_wp2_with fail
    go_ret2
    exact ⟨rfl, (HB.out.next hb1).1⟩
  | true =>
    rw [he] at CE h
    by_cases hm : mtu < 68
    · clear h
      go_enter Try.func7, Try.ntmps7
      go_wp2_with fail
      refine (CE.out _).mono ?_
      rintro e w1 ⟨rfl, hb1⟩
      go_wp2_with fail
      go_ret2
      exact ⟨rfl, (HB.out.next hb1).1⟩
    · have hm2 : 65535 < mtu := by
        rcases h with h | h | h
        · cases h
        · exact absurd h hm
        · exact h
      have hm3 : 68 ≤ mtu := by omega
      clear h hm
      go_enter Try.func7, Try.ntmps7
      go_wp2_with fail
      refine (CE.out _).mono ?_
      rintro e w1 ⟨rfl, hb1⟩
      go_wp2_with fail
      go_ret2
      exact ⟨rfl, (HB.out.next hb1).1⟩
set_option maxHeartbeats 2000000 in
theorem implFrag_size (x0 x1 : Int) (x2 x3 : Bool) (x4 x5 x6 x7 x8 : Int) (a0 : Option Addr) (n0 c0 : Nat) (a1 : Option Addr) (n1 c1 : Nat) (mtu : Int) (w : World) (m0 : n0 ≤ 1048576) (m1 : n1 ≤ 1048576) (hm1 : 68 ≤ mtu) (hm2 : mtu ≤ 65535) (he : encB x0 x1 x4 x5 x6 x7 x8 n0 n1 = true) (hs : decide (20 + (n0 : Int) + (n1 : Int) ≤ mtu) = false) (h2 : x2 = true) (l0 : n0 ≤ 40) :
    Calls Try.prog 7 #[.agg #[.int .i64 x0, .int .i64 x1, .bool x2, .bool x3, .int .i64 x4, .int .i64 x5, .int .i64 x6, .int .i64 x7, .int .i64 x8, .slice a0 n0 c0, .slice a1 n1 c1], .int .i64 mtu] w fun e w' => e = .returned (.tuple #[.slice none 0 0, .int .i64 7]) ∧ Below w.heap.size w w' := by
  have HB := hide (BoxPacket.start w x0 x1 x2 x3 x4 x5 x6 x7 x8 (.slice a0 n0 c0) (.slice a1 n1 c1) 29)
  have CE := hide (fun W => encodes_walk x0 x1 x2 x3 x4 x5 x6 x7 x8 a0 n0 c0 a1 n1 c1 W m0 m1)
  have CP := hide (fun W => headAndPayload_walk x0 x1 x2 x3 x4 x5 x6 x7 x8 a0 n0 c0 a1 n1 c1 W m0 m1)
  have CL := hide (fun W => headLength_walk x0 x1 x2 x3 x4 x5 x6 x7 x8 a0 n0 c0 a1 n1 c1 W m0)
  have hs' := of_decide_eq_false hs
  subst h2
  rw [he] at CE
  clear he hs
  obtain ⟨_, _, k0, k1, k2, k3, k4, k5, k6, k7, k8, k9, k10⟩ := HB.out
  go_enter Try.func7, Try.ntmps7
  go_wp2_with fail
  refine (CE.out _).mono ?_
  rintro e w1 ⟨rfl, hb1⟩
  have HB1 := hide (HB.out.next hb1)
  clear k0 k1 k2 k3 k4 k5 k6 k7 k8 k9 k10 hb1
  obtain ⟨_, _, k0, k1, k2, k3, k4, k5, k6, k7, k8, k9, k10⟩ := HB1.out
  go_wp2_with fail
  refine (CP.out _).mono ?_
  rintro e w2 ⟨rfl, hb2⟩
  have HB2 := hide (HB1.out.next hb2)
  clear k0 k1 k2 k3 k4 k5 k6 k7 k8 k9 k10 hb2
  obtain ⟨_, _, k0, k1, k2, k3, k4, k5, k6, k7, k8, k9, k10⟩ := HB2.out
  go_wp2_with fail
  refine (CL.out _).mono ?_
  rintro e w3 ⟨rfl, hb3⟩
  have HB3 := hide (HB2.out.next hb3)
  clear k0 k1 k2 k3 k4 k5 k6 k7 k8 k9 k10 hb3
  obtain ⟨_, _, k0, k1, k2, k3, k4, k5, k6, k7, k8, k9, k10⟩ := HB3.out
  go_wp2_with fail
  go_ret2
  exact ⟨rfl, HB3.out.1⟩
set_option maxHeartbeats 4000000 in
theorem implFrag_whole (x0 x1 : Int) (x2 x3 : Bool) (x4 x5 x6 x7 x8 : Int) (a0 : Option Addr) (n0 c0 : Nat) (a1 : Option Addr) (n1 c1 : Nat) (z0 z1 : List Int) (mtu : Int) (w : World) (h0n : z0.length = n0) (h0a : Arr w a0 z0) (m0 : n0 ≤ 1048576) (q0 : n0 ≤ c0) (h1n : z1.length = n1) (h1a : Arr w a1 z1) (m1 : n1 ≤ 1048576) (q1 : n1 ≤ c1) (hm1 : 68 ≤ mtu) (hm2 : mtu ≤ 65535) (he : encB x0 x1 x4 x5 x6 x7 x8 n0 n1 = true) (hs : 20 + (n0 : Int) + (n1 : Int) ≤ mtu) :
    Calls Try.prog 7 #[.agg #[.int .i64 x0, .int .i64 x1, .bool x2, .bool x3, .int .i64 x4, .int .i64 x5, .int .i64 x6, .int .i64 x7, .int .i64 x8, .slice a0 n0 c0, .slice a1 n1 c1], .int .i64 mtu] w fun e w' => ∃ v, e = .returned (.tuple #[v, .int .i64 0]) ∧ RowsOf w' (w.heap.size + 1) 29 11 v 1 (dPacket ⟨x0, x1, x2, x3, x4, x5, x6, x7, x8, z0, z1⟩) ∧ Below w.heap.size w w' := by
  have HB := hide (BoxPacket.start w x0 x1 x2 x3 x4 x5 x6 x7 x8 (.slice a0 n0 c0) (.slice a1 n1 c1) 29)
  have CE := hide (fun W => encodes_walk x0 x1 x2 x3 x4 x5 x6 x7 x8 a0 n0 c0 a1 n1 c1 W m0 m1)
  have CP := hide (fun W => headAndPayload_walk x0 x1 x2 x3 x4 x5 x6 x7 x8 a0 n0 c0 a1 n1 c1 W m0 m1)
  have CY := hide (fun W (hb : Below w.heap.size w W) => copyPacket_walk x0 x1 x2 x3 x4 x5 x6 x7 x8 a0 n0 c0 a1 n1 c1 z0 z1 W h0n (h0a.below hb (Nat.le_refl _)) m0 q0 h1n (h1a.below hb (Nat.le_refl _)) m1 q1)
  rw [he] at CE
  clear he h0a h1a h0n h1n
  obtain ⟨_, _, k0, k1, k2, k3, k4, k5, k6, k7, k8, k9, k10⟩ := HB.out
  go_enter Try.func7, Try.ntmps7
  go_wp2_with fail
  refine (CE.out _).mono ?_
  rintro e w1 ⟨rfl, hb1⟩
  have HB1 := hide (HB.out.next hb1)
  clear k0 k1 k2 k3 k4 k5 k6 k7 k8 k9 k10 hb1
  obtain ⟨_, _, k0, k1, k2, k3, k4, k5, k6, k7, k8, k9, k10⟩ := HB1.out
  go_wp2_with fail
  refine (CP.out _).mono ?_
  rintro e w2 ⟨rfl, hb2⟩
  have HB2 := hide (HB1.out.next hb2)
  clear k0 k1 k2 k3 k4 k5 k6 k7 k8 k9 k10 hb2
  obtain ⟨_, _, k0, k1, k2, k3, k4, k5, k6, k7, k8, k9, k10⟩ := HB2.out
  go_wp2_with fail
  refine (CY.out _ HB2.out.1).mono ?_
  rintro e w3 ⟨v0, v1, rfl, hO0, hO1, hap, hb3⟩
  obtain ⟨b0, d0, rfl, _⟩ := own_slice hO0
  obtain ⟨b1, d1, rfl, _⟩ := own_slice hO1
  have HB3 := hide (HB2.out.next hb3)
  have hsz := HB2.out.2.1
  have hz3 := hb3.size
  have HO0 := hide hO0
  have HO1 := hide hO1
  have HAP := hide hap
  clear k0 k1 k2 k3 k4 k5 k6 k7 k8 k9 k10 HB2 hb3 hO0 hO1 hap
  obtain ⟨p0, hp0⟩ : ∃ p, p = z0.length := ⟨_, rfl⟩
  obtain ⟨p1, hp1⟩ : ∃ p, p = z1.length := ⟨_, rfl⟩
  rw [← hp0] at HO0 HAP ⊢
  rw [← hp1] at HO1 HAP ⊢
  clear hp0 hp1
  go_wp2_with fail
  go_ret2
  have hal := (Below.refl w3.heap.size w3).alloc (Nat.le_refl _) (.cells #[.int .i64 x0, .int .i64 x1, .bool x2, .bool x3, .int .i64 x4, .int .i64 x5, .int .i64 x6, .int .i64 x7, .int .i64 x8, .slice b0 p0 d0, .slice b1 p1 d1] 29)
  have hN := holdsPk (o := ⟨x0, x1, x2, x3, x4, x5, x6, x7, x8, z0, z1⟩) ((HO0.out.mono (show w.heap.size + 1 ≤ w2.heap.size + 2 by omega)).next hal) ((HO1.out.mono (show w.heap.size + 1 ≤ w2.heap.size + 2 by omega)).next hal)
  refine ⟨_, rfl, ⟨_, _, World.ownsRow_lit (base := w.heap.size + 1) (e := 29) (size := 11) w3 #[.int .i64 x0, .int .i64 x1, .bool x2, .bool x3, .int .i64 x4, .int .i64 x5, .int .i64 x6, .int .i64 x7, .int .i64 x8, .slice b0 p0 d0, .slice b1 p1 d1] 1 (by omega) (by decide) rfl, hN, ?_⟩, (HB3.out.next hal).1⟩
  rw [List.nodup_append]
  refine ⟨by simp [Value.ownBlock], nodupPk HAP.out, fun g hg q hq e => ?_⟩
  subst e
  have hg' : g = w3.heap.size := by simpa [Value.ownBlock] using hg
  rcases List.mem_append.1 hq with h | h
  · have := own_lt HO0.out g (by simpa using h); omega
  · have := own_lt HO1.out g (by simpa using h); omega
set_option maxHeartbeats 4000000 in
theorem implFrag_cut (x0 x1 : Int) (x3 : Bool) (x4 x5 x6 x7 x8 : Int) (a0 : Option Addr) (n0 c0 b off n1 c1 : Nat) (z0 z1 : List Int) (mtu : Int) (w : World) (h0n : z0.length = n0) (h0a : Arr w a0 z0) (m0 : n0 ≤ 1048576) (q0 : n0 ≤ c0) (h1n : z1.length = n1) (h1a : Arr w (some ⟨b, off, none⟩) z1) (m1 : n1 ≤ 1048576) (q1 : n1 ≤ c1) (h4a : 0 ≤ x4) (h4b : x4 ≤ 65528) (hm1 : 68 ≤ mtu) (hm2 : mtu ≤ 65535) (he : encB x0 x1 x4 x5 x6 x7 x8 n0 n1 = true) (hs : decide (20 + (n0 : Int) + (n1 : Int) ≤ mtu) = false) (n : Nat) (hnn : (mtu - (20 + (n0 : Int))) / 8 * 8 = (n : Int)) (hn8 : (8 : Int) ≤ (n : Int)) (hnb : n ≤ 65535) (l0 : n0 ≤ 40) :
    Calls Try.prog 7 #[.agg #[.int .i64 x0, .int .i64 x1, .bool false, .bool x3, .int .i64 x4, .int .i64 x5, .int .i64 x6, .int .i64 x7, .int .i64 x8, .slice a0 n0 c0, .slice (some ⟨b, off, none⟩) n1 c1], .int .i64 mtu] w fun e w' => ∃ v bs, e = .returned (.tuple #[v, .int .i64 0]) ∧ Holds w' w.heap.size (.s 29 11 (frM n1 n) ((frs ⟨x0, x1, false, x3, x4, x5, x6, x7, x8, z0, z1⟩ n (frM n1 n)).flatMap dPacket)) v bs ∧ bs.Nodup ∧ Below w.heap.size w w' := by
  have HB := hide (BoxPacket.start w x0 x1 false x3 x4 x5 x6 x7 x8 (.slice a0 n0 c0) (.slice (some ⟨b, off, none⟩) n1 c1) 29)
  have CE := hide (fun W => encodes_walk x0 x1 false x3 x4 x5 x6 x7 x8 a0 n0 c0 (some ⟨b, off, none⟩) n1 c1 W m0 m1)
  have CP := hide (fun W => headAndPayload_walk x0 x1 false x3 x4 x5 x6 x7 x8 a0 n0 c0 (some ⟨b, off, none⟩) n1 c1 W m0 m1)
  have CL := hide (fun W => headLength_walk x0 x1 false x3 x4 x5 x6 x7 x8 a0 n0 c0 (some ⟨b, off, none⟩) n1 c1 W m0)
  have CC := hide (fun W (hb : Below w.heap.size w W) => cutPacket_walk x0 x1 false x3 x4 x5 x6 x7 x8 a0 n0 c0 b off n1 c1 z0 z1 W h0n (h0a.below hb (Nat.le_refl _)) m0 q0 h1n (h1a.below hb (Nat.le_refl _)) m1 q1 h4a h4b n hn8 hnb)
  have HNN := hide hnn
  have hs' := of_decide_eq_false hs
  rw [he] at CE
  clear he hs h0a h1a h0n h1n hnn
  obtain ⟨_, _, k0, k1, k2, k3, k4, k5, k6, k7, k8, k9, k10⟩ := HB.out
  go_enter Try.func7, Try.ntmps7
  go_wp2_with fail
  refine (CE.out _).mono ?_
  rintro e w1 ⟨rfl, hb1⟩
  have HB1 := hide (HB.out.next hb1)
  clear k0 k1 k2 k3 k4 k5 k6 k7 k8 k9 k10 hb1
  obtain ⟨_, _, k0, k1, k2, k3, k4, k5, k6, k7, k8, k9, k10⟩ := HB1.out
  go_wp2_with fail
  refine (CP.out _).mono ?_
  rintro e w2 ⟨rfl, hb2⟩
  have HB2 := hide (HB1.out.next hb2)
  clear k0 k1 k2 k3 k4 k5 k6 k7 k8 k9 k10 hb2
  obtain ⟨_, _, k0, k1, k2, k3, k4, k5, k6, k7, k8, k9, k10⟩ := HB2.out
  go_wp2_with fail
  refine (CL.out _).mono ?_
  rintro e w3 ⟨rfl, hb3⟩
  have HB3 := hide (HB2.out.next hb3)
  clear k0 k1 k2 k3 k4 k5 k6 k7 k8 k9 k10 hb3
  obtain ⟨_, _, k0, k1, k2, k3, k4, k5, k6, k7, k8, k9, k10⟩ := HB3.out
  have hnn := HNN.out
  go_wp2_with fail
  clear hnn
  refine (CC.out _ HB3.out.1).mono ?_
  rintro e w4 ⟨v, rfl, hr, hb4⟩
  have HB4 := hide (HB3.out.next hb4)
  have HR := hide hr
  have hz := HB3.out.2.1
  clear k0 k1 k2 k3 k4 k5 k6 k7 k8 k9 k10 hr hb4
  go_wp2_with fail
  go_ret2
  obtain ⟨bs, hh, hn⟩ := HR.out.holds
  exact ⟨_, bs, rfl, Holds.down (by omega) _ _ _ hh, hn, HB4.out.1⟩
theorem encB_of (x0 x1 x4 x5 x6 x7 x8 : Int) (n0 n1 : Nat) : encB x0 x1 x4 x5 x6 x7 x8 n0 n1 = decide (ipC x0 x1 x4 x5 x6 x7 x8 n0 n1 = 0) := by
  unfold encB ipC fitB
  cases pkOK x0 x1 x4 x5 x6 x7 x8 n0 with
  | false => rfl
  | true =>
    rw [Bool.true_and, if_pos rfl]
    by_cases h : 65535 < 20 + (n0 : Int) + (n1 : Int) ∨ 65535 < x4 + (n1 : Int)
    · rw [if_pos h]
      rcases h with h | h
      · rw [decide_eq_false (by omega)]; rfl
      · rw [decide_eq_false (show ¬ x4 + (n1 : Int) ≤ 65535 by omega), Bool.and_false]; rfl
    · rw [if_neg h, decide_eq_true (show 20 + (n0 : Int) + (n1 : Int) ≤ 65535 by omega), decide_eq_true (show x4 + (n1 : Int) ≤ 65535 by omega)]; rfl
/-- Fragment of the program. -/
theorem implFrag (x0 x1 : Int) (x2 x3 : Bool) (x4 x5 x6 x7 x8 : Int) (z0 z1 : List Int) (mtu : Int) (Pre : World → Prop) : RowFragmentP 7 Pre x0 x1 x2 x3 x4 x5 x6 x7 x8 z0 z1 mtu (fgO ⟨x0, x1, x2, x3, x4, x5, x6, x7, x8, z0, z1⟩ mtu) (fgC x0 x1 x2 x4 x5 x6 x7 x8 z0.length z1.length mtu) := by
  intro a0 n0 c0 a1 n1 c1 W h0n h0a k0 m0 h1n h1a k1 m1 hp
  subst h0n h1n
  have hCd : fgC x0 x1 x2 x4 x5 x6 x7 x8 z0.length z1.length mtu = if ipC x0 x1 x4 x5 x6 x7 x8 z0.length z1.length ≠ 0 ∨ mtu < 68 ∨ 65535 < mtu then 1 else if 20 + (z0.length : Int) + (z1.length : Int) ≤ mtu then 0 else if x2 = true then 7 else 0 := rfl
  have hOd : fgO ⟨x0, x1, x2, x3, x4, x5, x6, x7, x8, z0, z1⟩ mtu = if fgC x0 x1 x2 x4 x5 x6 x7 x8 z0.length z1.length mtu ≠ 0 then [] else if 20 + (z0.length : Int) + (z1.length : Int) ≤ mtu then [⟨x0, x1, x2, x3, x4, x5, x6, x7, x8, z0, z1⟩] else frs ⟨x0, x1, x2, x3, x4, x5, x6, x7, x8, z0, z1⟩ (frN z0.length mtu) (frM z1.length (frN z0.length mtu)) := rfl
  have bad : ∀ c : Int, fgC x0 x1 x2 x4 x5 x6 x7 x8 z0.length z1.length mtu = c → ¬ c = 0 → ∀ e w', e = Ending.returned (.tuple #[.slice none 0 0, .int .i64 c]) ∧ Below W.heap.size W w' → ∃ (v : Value) (bs : List Nat), e = .returned (.tuple #[v, .int .i64 (fgC x0 x1 x2 x4 x5 x6 x7 x8 z0.length z1.length mtu)]) ∧ Holds w' W.heap.size (dPacketS (fgO ⟨x0, x1, x2, x3, x4, x5, x6, x7, x8, z0, z1⟩ mtu)) v bs ∧ bs.Nodup ∧ Below W.heap.size W w' := by
    rintro c hc h0 e w' ⟨rfl, hb⟩
    rw [hOd, hc, if_pos h0]
    exact ⟨_, [], rfl, holds_none, by simp, hb⟩
  by_cases h1 : ipC x0 x1 x4 x5 x6 x7 x8 z0.length z1.length ≠ 0 ∨ mtu < 68 ∨ 65535 < mtu
  · exact (implFrag_form x0 x1 x2 x3 x4 x5 x6 x7 x8 a0 _ c0 a1 _ c1 mtu W m0 m1 (by
      rcases h1 with h | h
      · exact .inl (by rw [encB_of]; exact decide_eq_false h)
      · exact .inr h)).mono (bad 1 (by rw [hCd, if_pos h1]) (by decide))
  · have hI : ipC x0 x1 x4 x5 x6 x7 x8 z0.length z1.length = 0 := by
      by_cases h : ipC x0 x1 x4 x5 x6 x7 x8 z0.length z1.length = 0
      · exact h
      · exact absurd (Or.inl h) h1
    have hm1 : 68 ≤ mtu := by
      by_cases h : mtu < 68
      · exact absurd (Or.inr (Or.inl h)) h1
      · omega
    have hm2 : mtu ≤ 65535 := by
      by_cases h : 65535 < mtu
      · exact absurd (Or.inr (Or.inr h)) h1
      · omega
    have hok : pkOK x0 x1 x4 x5 x6 x7 x8 z0.length = true := by
      cases h : pkOK x0 x1 x4 x5 x6 x7 x8 z0.length with
      | true => rfl
      | false => unfold ipC at hI; rw [h] at hI; cases hI
    obtain ⟨_, _, b4, _, _, _, _, l0, l1, l2⟩ := pkOK_parts hok
    have he : encB x0 x1 x4 x5 x6 x7 x8 z0.length z1.length = true := by rw [encB_of]; exact decide_eq_true hI
    by_cases hs : 20 + (z0.length : Int) + (z1.length : Int) ≤ mtu
    · have hC : fgC x0 x1 x2 x4 x5 x6 x7 x8 z0.length z1.length mtu = 0 := by rw [hCd, if_neg h1, if_pos hs]
      refine (implFrag_whole x0 x1 x2 x3 x4 x5 x6 x7 x8 a0 _ c0 a1 _ c1 z0 z1 mtu W rfl h0a m0 k0 rfl h1a m1 k1 hm1 hm2 he hs).mono ?_
      rintro e w' ⟨v, rfl, hr, hb⟩
      obtain ⟨bs, hh, hn⟩ := hr.holds
      rw [hOd, hC, if_neg (by decide), if_pos hs]
      exact ⟨v, bs, rfl, Holds.down (Nat.le_succ _) _ _ _ hh, hn, hb⟩
    · cases x2 with
      | true =>
        exact (implFrag_size x0 x1 true x3 x4 x5 x6 x7 x8 a0 _ c0 a1 _ c1 mtu W m0 m1 hm1 hm2 he (decide_eq_false hs) rfl l0).mono (bad 7 (by rw [hCd, if_neg h1, if_neg hs]; rfl) (by decide))
      | false =>
        have hC : fgC x0 x1 false x4 x5 x6 x7 x8 z0.length z1.length mtu = 0 := by rw [hCd, if_neg h1, if_neg hs]; rfl
        obtain ⟨b, off, rfl, _⟩ := h1a.2 0 (by omega)
        have hf : (mtu - (20 + (z0.length : Int))) / 8 * 8 = ((frN z0.length mtu : Nat) : Int) := by unfold frN; omega
        refine (implFrag_cut x0 x1 x3 x4 x5 x6 x7 x8 a0 _ c0 b off _ c1 z0 z1 mtu W rfl h0a m0 k0 rfl h1a m1 k1 b4.1 b4.2 hm1 hm2 he (decide_eq_false hs) (frN z0.length mtu) hf (by omega) (by omega) l0).mono ?_
        rintro e w' ⟨v, bs, rfl, hh, hn, hb⟩
        rw [hOd, hC, if_neg (by decide), if_neg hs]
        have e2 : dPacketS (frs ⟨x0, x1, false, x3, x4, x5, x6, x7, x8, z0, z1⟩ (frN z0.length mtu) (frM z1.length (frN z0.length mtu))) = .s 29 11 (frM z1.length (frN z0.length mtu)) ((frs ⟨x0, x1, false, x3, x4, x5, x6, x7, x8, z0, z1⟩ (frN z0.length mtu) (frM z1.length (frN z0.length mtu))).flatMap dPacket) := by unfold dPacketS; rw [frs_len]
        rw [e2]
        exact ⟨v, bs, rfl, hh, hn, hb⟩
end Go.Proofs.Ytednldijgijheaa
