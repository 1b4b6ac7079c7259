/-
Contracts of functions of this seat.
-/
import Derived.Test.YtednldijgijheaaRows
import Derived.WalkKit
import Derived.ProofKit
import Derived.OpenShut
import Derived.Test.YtednldijgijheaaCpk
import Derived.Test.YtednldijgijheaaFrk
namespace Go.Proofs.Ytednldijgijheaa
open Go.ChangeShapes Go.WideShapes Go.ChangeAt Go.RowKit
set_option linter.unusedVariables false
set_option maxRecDepth 100000
set_option maxHeartbeats 16000000 in
theorem cutPacket_walk (x0 x1 : Int) (x2 x3 : Bool) (x4 x5 x6 x7 x8 : Int) (a0 : Option Addr) (n0 c0 b off n1 c1 : Nat) (z0 z1 : List Int) (w : World) (h0n : z0.length = n0) (h0a : Arr w a0 z0) (m0 : n0 ≤ 1048576) (q0 : n0 ≤ c0) (h1n : z1.length = n1) (h1a : Arr w (some ⟨b, off, none⟩) z1) (m1 : n1 ≤ 1048576) (hc1 : n1 ≤ c1) (h4a : 0 ≤ x4) (h4b : x4 ≤ 65528) (n : Nat) (hn8 : (8 : Int) ≤ (n : Int)) (hnb : n ≤ 65535) :
    Calls Try.prog 23 #[.agg #[.int .i64 x0, .int .i64 x1, .bool x2, .bool x3, .int .i64 x4, .int .i64 x5, .int .i64 x6, .int .i64 x7, .int .i64 x8, .slice a0 n0 c0, .slice (some ⟨b, off, none⟩) n1 c1], .int .i64 (n : Int)] w fun e w' => ∃ v, e = .returned v ∧ RowsOf w' (w.heap.size + 1) 29 11 v (frM n1 n) ((frs ⟨x0, x1, x2, x3, x4, x5, x6, x7, x8, z0, z1⟩ n (frM n1 n)).flatMap dPacket) ∧ Below w.heap.size w w' := by
  obtain ⟨inf, hi, hz0, hz1, hz2⟩ := info_parts Try.infoPk
  have HB := hide (BoxPacket.start w x0 x1 x2 x3 x4 x5 x6 x7 x8 (.slice a0 n0 c0) (.slice (some ⟨b, off, none⟩) n1 c1) 29)
  have HA0 := hide h0a
  have HA1 := hide h1a
  have HZ0 := hide h0n
  have HZ1 := hide h1n
  clear h0a h1a h0n h1n
  obtain ⟨_, _, k0, k1, k2, k3, k4, k5, k6, k7, k8, k9, k10⟩ := HB.out
  go_enter Try.func23, Try.ntmps23
  go_wp2_with fail
  clear k0 k1 k2 k3 k4 k5 k6 k7 k8 k9 k10
  generalize w.alloc _ = W at *
  go_loopw [5, 6] (fun o t wx => ∃ j at_ : Nat, t = .int .i64 (at_ : Int) ∧ Hid (at_ = j * n) ∧ at_ ≤ 2097152 ∧ Hid (∀ i, i < j → i * n < n1) ∧ Hid (RowsOf wx (w.heap.size + 1) 29 11 o j ((frs ⟨x0, x1, x2, x3, x4, x5, x6, x7, x8, z0, z1⟩ n j).flatMap dPacket)) ∧ Hid (BoxPacket w wx x0 x1 x2 x3 x4 x5 x6 x7 x8 (.slice a0 n0 c0) (.slice (some ⟨b, off, none⟩) n1 c1))) (fun _ t _ => 3145728 - (intOf t).toNat)
  case atStart => exact ⟨0, 0, rfl, hide (by simp), by omega, hide (fun i hi => by omega), hide (by exact RowsOf.nil _ _ _ _), HB⟩
  case round =>
    obtain ⟨j, at_, rfl, HAT, hat, HLO, HRW, HBr⟩ := hrel
    clear HB
    obtain ⟨_, hbsz, k0, k1, k2, k3, k4, k5, k6, k7, k8, k9, k10⟩ := HBr.out
    by_cases hlt : at_ < n1
    · by_cases hlast : at_ + n < n1
      ·
        cases x3 with
        | true =>
          have HE : Hid (dPacket (frag ⟨x0, x1, x2, true, x4, x5, x6, x7, x8, z0, z1⟩ n j) = dPacket ⟨x0, x1, x2, true, x4 + (at_ : Int), x5, x6, x7, x8, z0, (z1.drop at_).take n⟩) := hide (by
            have h1 := HAT.out
            have h2 := HZ1.out
            unfold frag
            simp only
            rw [h1, h2, if_pos (show (j + 1) * n < n1 by rw [Nat.succ_mul, ← h1]; omega)])
          go_wp2_with fail
          clear k0 k1 k2 k3 k4 k5 k6 k7 k8 k9 k10
          have hW1 := HBr.out.1.alloc HBr.out.1.size (.cells #[.int .i64 x0, .int .i64 x1, .bool x2, .bool true, .int .i64 (x4 + (at_ : Int)), .int .i64 x5, .int .i64 x6, .int .i64 x7, .int .i64 x8, .slice a0 n0 c0, .slice (some ⟨b, off + at_, none⟩) n (c1 - at_)] 29)
          have hWr := (Below.refl wr.heap.size wr).alloc (Nat.le_refl _) (.cells #[.int .i64 x0, .int .i64 x1, .bool x2, .bool true, .int .i64 (x4 + (at_ : Int)), .int .i64 x5, .int .i64 x6, .int .i64 x7, .int .i64 x8, .slice a0 n0 c0, .slice (some ⟨b, off + at_, none⟩) n (c1 - at_)] 29)
          have hs1 := World.size_alloc wr (.cells #[.int .i64 x0, .int .i64 x1, .bool x2, .bool true, .int .i64 (x4 + (at_ : Int)), .int .i64 x5, .int .i64 x6, .int .i64 x7, .int .i64 x8, .slice a0 n0 c0, .slice (some ⟨b, off + at_, none⟩) n (c1 - at_)] 29)
          have HW1 := hide hWr
          generalize wr.alloc (.cells #[.int .i64 x0, .int .i64 x1, .bool x2, .bool true, .int .i64 (x4 + (at_ : Int)), .int .i64 x5, .int .i64 x6, .int .i64 x7, .int .i64 x8, .slice a0 n0 c0, .slice (some ⟨b, off + at_, none⟩) n (c1 - at_)] 29) = W1 at *
          refine (copyPacket_walk x0 x1 x2 true (x4 + (at_ : Int)) x5 x6 x7 x8 a0 n0 c0 (some ⟨b, off + at_, none⟩) n (c1 - at_) z0 ((z1.drop at_).take n) W1 HZ0.out (HA0.out.below hW1 (Nat.le_refl _)) m0 q0 (by rw [List.length_take, List.length_drop, HZ1.out]; omega) (((HA1.out.below hW1 (Nat.le_refl _)).drop at_).take n) (by omega) (by omega)).mono ?_
          rintro e w3 ⟨v0, v1, rfl, hO0, hO1, hap, hb3⟩
          obtain ⟨b0, d0, hv0, _⟩ := own_slice hO0
          obtain ⟨b1, d1, hv1, _⟩ := own_slice hO1
          obtain ⟨p0, hp0⟩ : ∃ p, p = z0.length := ⟨_, rfl⟩
          obtain ⟨p1, hp1⟩ : ∃ p, p = ((z1.drop at_).take n).length := ⟨_, rfl⟩
          rw [← hp0] at hv0
          rw [← hp1] at hv1
          subst hv0 hv1
          have HO0 := hide hO0
          have HO1 := hide hO1
          have HAP := hide hap
          have HW3 := hide (HW1.out.trans (hb3.mono (show wr.heap.size ≤ W1.heap.size by omega)))
          have hz3 := hb3.size
          clear hO0 hO1 hap hb3 hp0 hp1 hW1 hWr HW1
          obtain ⟨xs, fs, ho, hl, hnd⟩ := HRW.out
          have HL := hide hl
          have HND := hide hnd
          have HO := hide ho
          have hjb : j ≤ 1048576 := by
            have h1 := HAT.out
            have h2 : j * 1 ≤ j * n := Nat.mul_le_mul_left _ (by omega)
            omega
          clear ho hl hnd
          go_wp2_with (first | (at_builtin; refine wpList_append_own _ rfl _ _ 26 rfl (w.heap.size + 1) 29 inf _ 11 112 Try.underlying26 hi hz0 hz1 hz2 rfl (by decide) u5 j xs rfl ((row_below HO.out HW3.out).alloc _) ⟨w3.heap.size, 0, none⟩ 1 1 [.int .i64 x0, .int .i64 x1, .bool x2, .bool true, .int .i64 (x4 + (at_ : Int)), .int .i64 x5, .int .i64 x6, .int .i64 x7, .int .i64 x8, .slice b0 p0 d0, .slice b1 p1 d1] rfl rfl (by exact news_alloc w3 _ _) (by intro u hu; simp only [List.mem_cons, List.not_mem_nil, or_false] at hu; rcases hu with rfl | rfl | rfl | rfl | rfl | rfl | rfl | rfl | rfl | rfl | rfl <;> rfl) (by unfold maxLen; omega) (by omega) (by rw [World.size_alloc]; omega) ?_))
          intro v' w7 hown' hgrow hnil
          have hWa := HW3.out.alloc HW3.out.size (.cells #[.int .i64 x0, .int .i64 x1, .bool x2, .bool true, .int .i64 (x4 + (at_ : Int)), .int .i64 x5, .int .i64 x6, .int .i64 x7, .int .i64 x8, .slice b0 p0 d0, .slice b1 p1 d1] 29)
          have hal6 := (Below.refl w3.heap.size w3).alloc (Nat.le_refl _) (.cells #[.int .i64 x0, .int .i64 x1, .bool x2, .bool true, .int .i64 (x4 + (at_ : Int)), .int .i64 x5, .int .i64 x6, .int .i64 x7, .int .i64 x8, .slice b0 p0 d0, .slice b1 p1 d1] 29)
          have hlt0 := HoldsL.lt _ _ _ HL.out
          have hlo0 := HO.out.lt
          have hge1 := HO0.out.ge
          have hge2 := HO1.out.ge
          have hN := holdsPk (o := ⟨x0, x1, x2, true, x4 + (at_ : Int), x5, x6, x7, x8, z0, (z1.drop at_).take n⟩) ((HO0.out.mono (show w.heap.size + 1 ≤ W1.heap.size + 2 by omega)).next hal6) ((HO1.out.mono (show w.heap.size + 1 ≤ W1.heap.size + 2 by omega)).next hal6)
          have hR := RowsOf.more (row_below HO.out hWa) (HoldsL.frame _ _ _ HL.out (fun b hb => hWa.block b (hlt0 b hb).2)) HND.out hN (nodupPk HAP.out) (fun q hq hm => by
            have h1 : wr.heap.size ≤ q := by
              rcases List.mem_append.1 hq with h | h
              · have := hge1 q (by simpa using h); omega
              · have := hge2 q (by simpa using h); omega
            rcases List.mem_append.1 hm with h | h
            · have := (hlo0 q (by simpa using h)).2; omega
            · have := (hlt0 q h).2; omega) hown' hgrow (tysL_flat dPacket _ tys_packet _) (tys_packet _)
          rw [← HE.out, ← frs_succ] at hR
          have hbq : Below (w.heap.size + 1) _ w7 := (Below.refl (w.heap.size + 1) _).grown hgrow (by have := hWa.size; omega) (fun k hk => (hlo0 k hk).1)
          have HBf := hide (BoxPacket.keep (HBr.out.next hWa) hbq (Nat.lt_succ_self _))
          have HRf := hide hR
          clear hown' hgrow hnil hWa hal6 hlt0 hlo0 hge1 hge2 hN hR hbq HE HAP HO0 HO1 HW3 HL HND HO HRW HBr
          go_wp2_with fail
          exact ⟨⟨j + 1, at_ + n, by go_num, hide (by rw [Nat.succ_mul, ← HAT.out]), by omega, hide (fun i hi => by rcases Nat.lt_succ_iff_lt_or_eq.1 hi with h | h; exact HLO.out i h; subst h; rw [← HAT.out]; exact hlt), HRf, HBf⟩, by simp [intOf]; omega⟩
        | false =>
          have HE : Hid (dPacket (frag ⟨x0, x1, x2, false, x4, x5, x6, x7, x8, z0, z1⟩ n j) = dPacket ⟨x0, x1, x2, true, x4 + (at_ : Int), x5, x6, x7, x8, z0, (z1.drop at_).take n⟩) := hide (by
            have h1 := HAT.out
            have h2 := HZ1.out
            unfold frag
            simp only
            rw [h1, h2, if_pos (show (j + 1) * n < n1 by rw [Nat.succ_mul, ← h1]; omega)])
          go_wp2_with fail
          rw [show decide ((at_ : Int) + (n : Int) < (n1 : Int)) = true from decide_eq_true (by omega)]
          clear k0 k1 k2 k3 k4 k5 k6 k7 k8 k9 k10
          have hW1 := HBr.out.1.alloc HBr.out.1.size (.cells #[.int .i64 x0, .int .i64 x1, .bool x2, .bool true, .int .i64 (x4 + (at_ : Int)), .int .i64 x5, .int .i64 x6, .int .i64 x7, .int .i64 x8, .slice a0 n0 c0, .slice (some ⟨b, off + at_, none⟩) n (c1 - at_)] 29)
          have hWr := (Below.refl wr.heap.size wr).alloc (Nat.le_refl _) (.cells #[.int .i64 x0, .int .i64 x1, .bool x2, .bool true, .int .i64 (x4 + (at_ : Int)), .int .i64 x5, .int .i64 x6, .int .i64 x7, .int .i64 x8, .slice a0 n0 c0, .slice (some ⟨b, off + at_, none⟩) n (c1 - at_)] 29)
          have hs1 := World.size_alloc wr (.cells #[.int .i64 x0, .int .i64 x1, .bool x2, .bool true, .int .i64 (x4 + (at_ : Int)), .int .i64 x5, .int .i64 x6, .int .i64 x7, .int .i64 x8, .slice a0 n0 c0, .slice (some ⟨b, off + at_, none⟩) n (c1 - at_)] 29)
          have HW1 := hide hWr
          generalize wr.alloc (.cells #[.int .i64 x0, .int .i64 x1, .bool x2, .bool true, .int .i64 (x4 + (at_ : Int)), .int .i64 x5, .int .i64 x6, .int .i64 x7, .int .i64 x8, .slice a0 n0 c0, .slice (some ⟨b, off + at_, none⟩) n (c1 - at_)] 29) = W1 at *
          refine (copyPacket_walk x0 x1 x2 true (x4 + (at_ : Int)) x5 x6 x7 x8 a0 n0 c0 (some ⟨b, off + at_, none⟩) n (c1 - at_) z0 ((z1.drop at_).take n) W1 HZ0.out (HA0.out.below hW1 (Nat.le_refl _)) m0 q0 (by rw [List.length_take, List.length_drop, HZ1.out]; omega) (((HA1.out.below hW1 (Nat.le_refl _)).drop at_).take n) (by omega) (by omega)).mono ?_
          rintro e w3 ⟨v0, v1, rfl, hO0, hO1, hap, hb3⟩
          obtain ⟨b0, d0, hv0, _⟩ := own_slice hO0
          obtain ⟨b1, d1, hv1, _⟩ := own_slice hO1
          obtain ⟨p0, hp0⟩ : ∃ p, p = z0.length := ⟨_, rfl⟩
          obtain ⟨p1, hp1⟩ : ∃ p, p = ((z1.drop at_).take n).length := ⟨_, rfl⟩
          rw [← hp0] at hv0
          rw [← hp1] at hv1
          subst hv0 hv1
          have HO0 := hide hO0
          have HO1 := hide hO1
          have HAP := hide hap
          have HW3 := hide (HW1.out.trans (hb3.mono (show wr.heap.size ≤ W1.heap.size by omega)))
          have hz3 := hb3.size
          clear hO0 hO1 hap hb3 hp0 hp1 hW1 hWr HW1
          obtain ⟨xs, fs, ho, hl, hnd⟩ := HRW.out
          have HL := hide hl
          have HND := hide hnd
          have HO := hide ho
          have hjb : j ≤ 1048576 := by
            have h1 := HAT.out
            have h2 : j * 1 ≤ j * n := Nat.mul_le_mul_left _ (by omega)
            omega
          clear ho hl hnd
          go_wp2_with (first | (at_builtin; refine wpList_append_own _ rfl _ _ 26 rfl (w.heap.size + 1) 29 inf _ 11 112 Try.underlying26 hi hz0 hz1 hz2 rfl (by decide) u5 j xs rfl ((row_below HO.out HW3.out).alloc _) ⟨w3.heap.size, 0, none⟩ 1 1 [.int .i64 x0, .int .i64 x1, .bool x2, .bool true, .int .i64 (x4 + (at_ : Int)), .int .i64 x5, .int .i64 x6, .int .i64 x7, .int .i64 x8, .slice b0 p0 d0, .slice b1 p1 d1] rfl rfl (by exact news_alloc w3 _ _) (by intro u hu; simp only [List.mem_cons, List.not_mem_nil, or_false] at hu; rcases hu with rfl | rfl | rfl | rfl | rfl | rfl | rfl | rfl | rfl | rfl | rfl <;> rfl) (by unfold maxLen; omega) (by omega) (by rw [World.size_alloc]; omega) ?_))
          intro v' w7 hown' hgrow hnil
          have hWa := HW3.out.alloc HW3.out.size (.cells #[.int .i64 x0, .int .i64 x1, .bool x2, .bool true, .int .i64 (x4 + (at_ : Int)), .int .i64 x5, .int .i64 x6, .int .i64 x7, .int .i64 x8, .slice b0 p0 d0, .slice b1 p1 d1] 29)
          have hal6 := (Below.refl w3.heap.size w3).alloc (Nat.le_refl _) (.cells #[.int .i64 x0, .int .i64 x1, .bool x2, .bool true, .int .i64 (x4 + (at_ : Int)), .int .i64 x5, .int .i64 x6, .int .i64 x7, .int .i64 x8, .slice b0 p0 d0, .slice b1 p1 d1] 29)
          have hlt0 := HoldsL.lt _ _ _ HL.out
          have hlo0 := HO.out.lt
          have hge1 := HO0.out.ge
          have hge2 := HO1.out.ge
          have hN := holdsPk (o := ⟨x0, x1, x2, true, x4 + (at_ : Int), x5, x6, x7, x8, z0, (z1.drop at_).take n⟩) ((HO0.out.mono (show w.heap.size + 1 ≤ W1.heap.size + 2 by omega)).next hal6) ((HO1.out.mono (show w.heap.size + 1 ≤ W1.heap.size + 2 by omega)).next hal6)
          have hR := RowsOf.more (row_below HO.out hWa) (HoldsL.frame _ _ _ HL.out (fun b hb => hWa.block b (hlt0 b hb).2)) HND.out hN (nodupPk HAP.out) (fun q hq hm => by
            have h1 : wr.heap.size ≤ q := by
              rcases List.mem_append.1 hq with h | h
              · have := hge1 q (by simpa using h); omega
              · have := hge2 q (by simpa using h); omega
            rcases List.mem_append.1 hm with h | h
            · have := (hlo0 q (by simpa using h)).2; omega
            · have := (hlt0 q h).2; omega) hown' hgrow (tysL_flat dPacket _ tys_packet _) (tys_packet _)
          rw [← HE.out, ← frs_succ] at hR
          have hbq : Below (w.heap.size + 1) _ w7 := (Below.refl (w.heap.size + 1) _).grown hgrow (by have := hWa.size; omega) (fun k hk => (hlo0 k hk).1)
          have HBf := hide (BoxPacket.keep (HBr.out.next hWa) hbq (Nat.lt_succ_self _))
          have HRf := hide hR
          clear hown' hgrow hnil hWa hal6 hlt0 hlo0 hge1 hge2 hN hR hbq HE HAP HO0 HO1 HW3 HL HND HO HRW HBr
          go_wp2_with fail
          exact ⟨⟨j + 1, at_ + n, by go_num, hide (by rw [Nat.succ_mul, ← HAT.out]), by omega, hide (fun i hi => by rcases Nat.lt_succ_iff_lt_or_eq.1 hi with h | h; exact HLO.out i h; subst h; rw [← HAT.out]; exact hlt), HRf, HBf⟩, by simp [intOf]; omega⟩
      · by_cases hmore : n1 < at_ + n
        ·
          cases x3 with
          | true =>
            have HE : Hid (dPacket (frag ⟨x0, x1, x2, true, x4, x5, x6, x7, x8, z0, z1⟩ n j) = dPacket ⟨x0, x1, x2, true, x4 + (at_ : Int), x5, x6, x7, x8, z0, z1.drop at_⟩) := hide (by
              have h1 := HAT.out
              have h2 := HZ1.out
              unfold frag
              simp only
              rw [h1, h2, if_neg (show ¬ (j + 1) * n < n1 by rw [Nat.succ_mul, ← h1]; omega), List.take_of_length_le (by rw [List.length_drop, h2]; omega)])
            go_wp2_with fail
            clear k0 k1 k2 k3 k4 k5 k6 k7 k8 k9 k10
            have hW1 := HBr.out.1.alloc HBr.out.1.size (.cells #[.int .i64 x0, .int .i64 x1, .bool x2, .bool true, .int .i64 (x4 + (at_ : Int)), .int .i64 x5, .int .i64 x6, .int .i64 x7, .int .i64 x8, .slice a0 n0 c0, .slice (some ⟨b, off + at_, none⟩) (n1 - at_) (c1 - at_)] 29)
            have hWr := (Below.refl wr.heap.size wr).alloc (Nat.le_refl _) (.cells #[.int .i64 x0, .int .i64 x1, .bool x2, .bool true, .int .i64 (x4 + (at_ : Int)), .int .i64 x5, .int .i64 x6, .int .i64 x7, .int .i64 x8, .slice a0 n0 c0, .slice (some ⟨b, off + at_, none⟩) (n1 - at_) (c1 - at_)] 29)
            have hs1 := World.size_alloc wr (.cells #[.int .i64 x0, .int .i64 x1, .bool x2, .bool true, .int .i64 (x4 + (at_ : Int)), .int .i64 x5, .int .i64 x6, .int .i64 x7, .int .i64 x8, .slice a0 n0 c0, .slice (some ⟨b, off + at_, none⟩) (n1 - at_) (c1 - at_)] 29)
            have HW1 := hide hWr
            generalize wr.alloc (.cells #[.int .i64 x0, .int .i64 x1, .bool x2, .bool true, .int .i64 (x4 + (at_ : Int)), .int .i64 x5, .int .i64 x6, .int .i64 x7, .int .i64 x8, .slice a0 n0 c0, .slice (some ⟨b, off + at_, none⟩) (n1 - at_) (c1 - at_)] 29) = W1 at *
            refine (copyPacket_walk x0 x1 x2 true (x4 + (at_ : Int)) x5 x6 x7 x8 a0 n0 c0 (some ⟨b, off + at_, none⟩) (n1 - at_) (c1 - at_) z0 (z1.drop at_) W1 HZ0.out (HA0.out.below hW1 (Nat.le_refl _)) m0 q0 (by rw [List.length_drop, HZ1.out]) ((HA1.out.below hW1 (Nat.le_refl _)).drop at_) (by omega) (by omega)).mono ?_
            rintro e w3 ⟨v0, v1, rfl, hO0, hO1, hap, hb3⟩
            obtain ⟨b0, d0, hv0, _⟩ := own_slice hO0
            obtain ⟨b1, d1, hv1, _⟩ := own_slice hO1
            obtain ⟨p0, hp0⟩ : ∃ p, p = z0.length := ⟨_, rfl⟩
            obtain ⟨p1, hp1⟩ : ∃ p, p = (z1.drop at_).length := ⟨_, rfl⟩
            rw [← hp0] at hv0
            rw [← hp1] at hv1
            subst hv0 hv1
            have HO0 := hide hO0
            have HO1 := hide hO1
            have HAP := hide hap
            have HW3 := hide (HW1.out.trans (hb3.mono (show wr.heap.size ≤ W1.heap.size by omega)))
            have hz3 := hb3.size
            clear hO0 hO1 hap hb3 hp0 hp1 hW1 hWr HW1
            obtain ⟨xs, fs, ho, hl, hnd⟩ := HRW.out
            have HL := hide hl
            have HND := hide hnd
            have HO := hide ho
            have hjb : j ≤ 1048576 := by
              have h1 := HAT.out
              have h2 : j * 1 ≤ j * n := Nat.mul_le_mul_left _ (by omega)
              omega
            clear ho hl hnd
            go_wp2_with (first | (at_builtin; refine wpList_append_own _ rfl _ _ 26 rfl (w.heap.size + 1) 29 inf _ 11 112 Try.underlying26 hi hz0 hz1 hz2 rfl (by decide) u5 j xs rfl ((row_below HO.out HW3.out).alloc _) ⟨w3.heap.size, 0, none⟩ 1 1 [.int .i64 x0, .int .i64 x1, .bool x2, .bool true, .int .i64 (x4 + (at_ : Int)), .int .i64 x5, .int .i64 x6, .int .i64 x7, .int .i64 x8, .slice b0 p0 d0, .slice b1 p1 d1] rfl rfl (by exact news_alloc w3 _ _) (by intro u hu; simp only [List.mem_cons, List.not_mem_nil, or_false] at hu; rcases hu with rfl | rfl | rfl | rfl | rfl | rfl | rfl | rfl | rfl | rfl | rfl <;> rfl) (by unfold maxLen; omega) (by omega) (by rw [World.size_alloc]; omega) ?_))
            intro v' w7 hown' hgrow hnil
            have hWa := HW3.out.alloc HW3.out.size (.cells #[.int .i64 x0, .int .i64 x1, .bool x2, .bool true, .int .i64 (x4 + (at_ : Int)), .int .i64 x5, .int .i64 x6, .int .i64 x7, .int .i64 x8, .slice b0 p0 d0, .slice b1 p1 d1] 29)
            have hal6 := (Below.refl w3.heap.size w3).alloc (Nat.le_refl _) (.cells #[.int .i64 x0, .int .i64 x1, .bool x2, .bool true, .int .i64 (x4 + (at_ : Int)), .int .i64 x5, .int .i64 x6, .int .i64 x7, .int .i64 x8, .slice b0 p0 d0, .slice b1 p1 d1] 29)
            have hlt0 := HoldsL.lt _ _ _ HL.out
            have hlo0 := HO.out.lt
            have hge1 := HO0.out.ge
            have hge2 := HO1.out.ge
            have hN := holdsPk (o := ⟨x0, x1, x2, true, x4 + (at_ : Int), x5, x6, x7, x8, z0, z1.drop at_⟩) ((HO0.out.mono (show w.heap.size + 1 ≤ W1.heap.size + 2 by omega)).next hal6) ((HO1.out.mono (show w.heap.size + 1 ≤ W1.heap.size + 2 by omega)).next hal6)
            have hR := RowsOf.more (row_below HO.out hWa) (HoldsL.frame _ _ _ HL.out (fun b hb => hWa.block b (hlt0 b hb).2)) HND.out hN (nodupPk HAP.out) (fun q hq hm => by
              have h1 : wr.heap.size ≤ q := by
                rcases List.mem_append.1 hq with h | h
                · have := hge1 q (by simpa using h); omega
                · have := hge2 q (by simpa using h); omega
              rcases List.mem_append.1 hm with h | h
              · have := (hlo0 q (by simpa using h)).2; omega
              · have := (hlt0 q h).2; omega) hown' hgrow (tysL_flat dPacket _ tys_packet _) (tys_packet _)
            rw [← HE.out, ← frs_succ] at hR
            have hbq : Below (w.heap.size + 1) _ w7 := (Below.refl (w.heap.size + 1) _).grown hgrow (by have := hWa.size; omega) (fun k hk => (hlo0 k hk).1)
            have HBf := hide (BoxPacket.keep (HBr.out.next hWa) hbq (Nat.lt_succ_self _))
            have HRf := hide hR
            clear hown' hgrow hnil hWa hal6 hlt0 hlo0 hge1 hge2 hN hR hbq HE HAP HO0 HO1 HW3 HL HND HO HRW HBr
            go_wp2_with fail
            exact ⟨⟨j + 1, at_ + n, by go_num, hide (by rw [Nat.succ_mul, ← HAT.out]), by omega, hide (fun i hi => by rcases Nat.lt_succ_iff_lt_or_eq.1 hi with h | h; exact HLO.out i h; subst h; rw [← HAT.out]; exact hlt), HRf, HBf⟩, by simp [intOf]; omega⟩
          | false =>
            have HE : Hid (dPacket (frag ⟨x0, x1, x2, false, x4, x5, x6, x7, x8, z0, z1⟩ n j) = dPacket ⟨x0, x1, x2, false, x4 + (at_ : Int), x5, x6, x7, x8, z0, z1.drop at_⟩) := hide (by
              have h1 := HAT.out
              have h2 := HZ1.out
              unfold frag
              simp only
              rw [h1, h2, if_neg (show ¬ (j + 1) * n < n1 by rw [Nat.succ_mul, ← h1]; omega), List.take_of_length_le (by rw [List.length_drop, h2]; omega)])
            go_wp2_with fail
            skip
            clear k0 k1 k2 k3 k4 k5 k6 k7 k8 k9 k10
            have hW1 := HBr.out.1.alloc HBr.out.1.size (.cells #[.int .i64 x0, .int .i64 x1, .bool x2, .bool false, .int .i64 (x4 + (at_ : Int)), .int .i64 x5, .int .i64 x6, .int .i64 x7, .int .i64 x8, .slice a0 n0 c0, .slice (some ⟨b, off + at_, none⟩) (n1 - at_) (c1 - at_)] 29)
            have hWr := (Below.refl wr.heap.size wr).alloc (Nat.le_refl _) (.cells #[.int .i64 x0, .int .i64 x1, .bool x2, .bool false, .int .i64 (x4 + (at_ : Int)), .int .i64 x5, .int .i64 x6, .int .i64 x7, .int .i64 x8, .slice a0 n0 c0, .slice (some ⟨b, off + at_, none⟩) (n1 - at_) (c1 - at_)] 29)
            have hs1 := World.size_alloc wr (.cells #[.int .i64 x0, .int .i64 x1, .bool x2, .bool false, .int .i64 (x4 + (at_ : Int)), .int .i64 x5, .int .i64 x6, .int .i64 x7, .int .i64 x8, .slice a0 n0 c0, .slice (some ⟨b, off + at_, none⟩) (n1 - at_) (c1 - at_)] 29)
            have HW1 := hide hWr
            generalize wr.alloc (.cells #[.int .i64 x0, .int .i64 x1, .bool x2, .bool false, .int .i64 (x4 + (at_ : Int)), .int .i64 x5, .int .i64 x6, .int .i64 x7, .int .i64 x8, .slice a0 n0 c0, .slice (some ⟨b, off + at_, none⟩) (n1 - at_) (c1 - at_)] 29) = W1 at *
            refine (copyPacket_walk x0 x1 x2 false (x4 + (at_ : Int)) x5 x6 x7 x8 a0 n0 c0 (some ⟨b, off + at_, none⟩) (n1 - at_) (c1 - at_) z0 (z1.drop at_) W1 HZ0.out (HA0.out.below hW1 (Nat.le_refl _)) m0 q0 (by rw [List.length_drop, HZ1.out]) ((HA1.out.below hW1 (Nat.le_refl _)).drop at_) (by omega) (by omega)).mono ?_
            rintro e w3 ⟨v0, v1, rfl, hO0, hO1, hap, hb3⟩
            obtain ⟨b0, d0, hv0, _⟩ := own_slice hO0
            obtain ⟨b1, d1, hv1, _⟩ := own_slice hO1
            obtain ⟨p0, hp0⟩ : ∃ p, p = z0.length := ⟨_, rfl⟩
            obtain ⟨p1, hp1⟩ : ∃ p, p = (z1.drop at_).length := ⟨_, rfl⟩
            rw [← hp0] at hv0
            rw [← hp1] at hv1
            subst hv0 hv1
            have HO0 := hide hO0
            have HO1 := hide hO1
            have HAP := hide hap
            have HW3 := hide (HW1.out.trans (hb3.mono (show wr.heap.size ≤ W1.heap.size by omega)))
            have hz3 := hb3.size
            clear hO0 hO1 hap hb3 hp0 hp1 hW1 hWr HW1
            obtain ⟨xs, fs, ho, hl, hnd⟩ := HRW.out
            have HL := hide hl
            have HND := hide hnd
            have HO := hide ho
            have hjb : j ≤ 1048576 := by
              have h1 := HAT.out
              have h2 : j * 1 ≤ j * n := Nat.mul_le_mul_left _ (by omega)
              omega
            clear ho hl hnd
            go_wp2_with (first | (at_builtin; refine wpList_append_own _ rfl _ _ 26 rfl (w.heap.size + 1) 29 inf _ 11 112 Try.underlying26 hi hz0 hz1 hz2 rfl (by decide) u5 j xs rfl ((row_below HO.out HW3.out).alloc _) ⟨w3.heap.size, 0, none⟩ 1 1 [.int .i64 x0, .int .i64 x1, .bool x2, .bool false, .int .i64 (x4 + (at_ : Int)), .int .i64 x5, .int .i64 x6, .int .i64 x7, .int .i64 x8, .slice b0 p0 d0, .slice b1 p1 d1] rfl rfl (by exact news_alloc w3 _ _) (by intro u hu; simp only [List.mem_cons, List.not_mem_nil, or_false] at hu; rcases hu with rfl | rfl | rfl | rfl | rfl | rfl | rfl | rfl | rfl | rfl | rfl <;> rfl) (by unfold maxLen; omega) (by omega) (by rw [World.size_alloc]; omega) ?_))
            intro v' w7 hown' hgrow hnil
            have hWa := HW3.out.alloc HW3.out.size (.cells #[.int .i64 x0, .int .i64 x1, .bool x2, .bool false, .int .i64 (x4 + (at_ : Int)), .int .i64 x5, .int .i64 x6, .int .i64 x7, .int .i64 x8, .slice b0 p0 d0, .slice b1 p1 d1] 29)
            have hal6 := (Below.refl w3.heap.size w3).alloc (Nat.le_refl _) (.cells #[.int .i64 x0, .int .i64 x1, .bool x2, .bool false, .int .i64 (x4 + (at_ : Int)), .int .i64 x5, .int .i64 x6, .int .i64 x7, .int .i64 x8, .slice b0 p0 d0, .slice b1 p1 d1] 29)
            have hlt0 := HoldsL.lt _ _ _ HL.out
            have hlo0 := HO.out.lt
            have hge1 := HO0.out.ge
            have hge2 := HO1.out.ge
            have hN := holdsPk (o := ⟨x0, x1, x2, false, x4 + (at_ : Int), x5, x6, x7, x8, z0, z1.drop at_⟩) ((HO0.out.mono (show w.heap.size + 1 ≤ W1.heap.size + 2 by omega)).next hal6) ((HO1.out.mono (show w.heap.size + 1 ≤ W1.heap.size + 2 by omega)).next hal6)
            have hR := RowsOf.more (row_below HO.out hWa) (HoldsL.frame _ _ _ HL.out (fun b hb => hWa.block b (hlt0 b hb).2)) HND.out hN (nodupPk HAP.out) (fun q hq hm => by
              have h1 : wr.heap.size ≤ q := by
                rcases List.mem_append.1 hq with h | h
                · have := hge1 q (by simpa using h); omega
                · have := hge2 q (by simpa using h); omega
              rcases List.mem_append.1 hm with h | h
              · have := (hlo0 q (by simpa using h)).2; omega
              · have := (hlt0 q h).2; omega) hown' hgrow (tysL_flat dPacket _ tys_packet _) (tys_packet _)
            rw [← HE.out, ← frs_succ] at hR
            have hbq : Below (w.heap.size + 1) _ w7 := (Below.refl (w.heap.size + 1) _).grown hgrow (by have := hWa.size; omega) (fun k hk => (hlo0 k hk).1)
            have HBf := hide (BoxPacket.keep (HBr.out.next hWa) hbq (Nat.lt_succ_self _))
            have HRf := hide hR
            clear hown' hgrow hnil hWa hal6 hlt0 hlo0 hge1 hge2 hN hR hbq HE HAP HO0 HO1 HW3 HL HND HO HRW HBr
            go_wp2_with fail
            exact ⟨⟨j + 1, at_ + n, by go_num, hide (by rw [Nat.succ_mul, ← HAT.out]), by omega, hide (fun i hi => by rcases Nat.lt_succ_iff_lt_or_eq.1 hi with h | h; exact HLO.out i h; subst h; rw [← HAT.out]; exact hlt), HRf, HBf⟩, by simp [intOf]; omega⟩
        · have hle : at_ + n ≤ n1 := by omega
          clear hmore
          cases x3 with
          | true =>
            have HE : Hid (dPacket (frag ⟨x0, x1, x2, true, x4, x5, x6, x7, x8, z0, z1⟩ n j) = dPacket ⟨x0, x1, x2, true, x4 + (at_ : Int), x5, x6, x7, x8, z0, (z1.drop at_).take n⟩) := hide (by
              have h1 := HAT.out
              have h2 := HZ1.out
              unfold frag
              simp only
              rw [h1, h2, if_neg (show ¬ (j + 1) * n < n1 by rw [Nat.succ_mul, ← h1]; omega)])
            go_wp2_with fail
            clear k0 k1 k2 k3 k4 k5 k6 k7 k8 k9 k10
            have hW1 := HBr.out.1.alloc HBr.out.1.size (.cells #[.int .i64 x0, .int .i64 x1, .bool x2, .bool true, .int .i64 (x4 + (at_ : Int)), .int .i64 x5, .int .i64 x6, .int .i64 x7, .int .i64 x8, .slice a0 n0 c0, .slice (some ⟨b, off + at_, none⟩) n (c1 - at_)] 29)
            have hWr := (Below.refl wr.heap.size wr).alloc (Nat.le_refl _) (.cells #[.int .i64 x0, .int .i64 x1, .bool x2, .bool true, .int .i64 (x4 + (at_ : Int)), .int .i64 x5, .int .i64 x6, .int .i64 x7, .int .i64 x8, .slice a0 n0 c0, .slice (some ⟨b, off + at_, none⟩) n (c1 - at_)] 29)
            have hs1 := World.size_alloc wr (.cells #[.int .i64 x0, .int .i64 x1, .bool x2, .bool true, .int .i64 (x4 + (at_ : Int)), .int .i64 x5, .int .i64 x6, .int .i64 x7, .int .i64 x8, .slice a0 n0 c0, .slice (some ⟨b, off + at_, none⟩) n (c1 - at_)] 29)
            have HW1 := hide hWr
            generalize wr.alloc (.cells #[.int .i64 x0, .int .i64 x1, .bool x2, .bool true, .int .i64 (x4 + (at_ : Int)), .int .i64 x5, .int .i64 x6, .int .i64 x7, .int .i64 x8, .slice a0 n0 c0, .slice (some ⟨b, off + at_, none⟩) n (c1 - at_)] 29) = W1 at *
            refine (copyPacket_walk x0 x1 x2 true (x4 + (at_ : Int)) x5 x6 x7 x8 a0 n0 c0 (some ⟨b, off + at_, none⟩) n (c1 - at_) z0 ((z1.drop at_).take n) W1 HZ0.out (HA0.out.below hW1 (Nat.le_refl _)) m0 q0 (by rw [List.length_take, List.length_drop, HZ1.out]; omega) (((HA1.out.below hW1 (Nat.le_refl _)).drop at_).take n) (by omega) (by omega)).mono ?_
            rintro e w3 ⟨v0, v1, rfl, hO0, hO1, hap, hb3⟩
            obtain ⟨b0, d0, hv0, _⟩ := own_slice hO0
            obtain ⟨b1, d1, hv1, _⟩ := own_slice hO1
            obtain ⟨p0, hp0⟩ : ∃ p, p = z0.length := ⟨_, rfl⟩
            obtain ⟨p1, hp1⟩ : ∃ p, p = ((z1.drop at_).take n).length := ⟨_, rfl⟩
            rw [← hp0] at hv0
            rw [← hp1] at hv1
            subst hv0 hv1
            have HO0 := hide hO0
            have HO1 := hide hO1
            have HAP := hide hap
            have HW3 := hide (HW1.out.trans (hb3.mono (show wr.heap.size ≤ W1.heap.size by omega)))
            have hz3 := hb3.size
            clear hO0 hO1 hap hb3 hp0 hp1 hW1 hWr HW1
            obtain ⟨xs, fs, ho, hl, hnd⟩ := HRW.out
            have HL := hide hl
            have HND := hide hnd
            have HO := hide ho
            have hjb : j ≤ 1048576 := by
              have h1 := HAT.out
              have h2 : j * 1 ≤ j * n := Nat.mul_le_mul_left _ (by omega)
              omega
            clear ho hl hnd
            go_wp2_with (first | (at_builtin; refine wpList_append_own _ rfl _ _ 26 rfl (w.heap.size + 1) 29 inf _ 11 112 Try.underlying26 hi hz0 hz1 hz2 rfl (by decide) u5 j xs rfl ((row_below HO.out HW3.out).alloc _) ⟨w3.heap.size, 0, none⟩ 1 1 [.int .i64 x0, .int .i64 x1, .bool x2, .bool true, .int .i64 (x4 + (at_ : Int)), .int .i64 x5, .int .i64 x6, .int .i64 x7, .int .i64 x8, .slice b0 p0 d0, .slice b1 p1 d1] rfl rfl (by exact news_alloc w3 _ _) (by intro u hu; simp only [List.mem_cons, List.not_mem_nil, or_false] at hu; rcases hu with rfl | rfl | rfl | rfl | rfl | rfl | rfl | rfl | rfl | rfl | rfl <;> rfl) (by unfold maxLen; omega) (by omega) (by rw [World.size_alloc]; omega) ?_))
            intro v' w7 hown' hgrow hnil
            have hWa := HW3.out.alloc HW3.out.size (.cells #[.int .i64 x0, .int .i64 x1, .bool x2, .bool true, .int .i64 (x4 + (at_ : Int)), .int .i64 x5, .int .i64 x6, .int .i64 x7, .int .i64 x8, .slice b0 p0 d0, .slice b1 p1 d1] 29)
            have hal6 := (Below.refl w3.heap.size w3).alloc (Nat.le_refl _) (.cells #[.int .i64 x0, .int .i64 x1, .bool x2, .bool true, .int .i64 (x4 + (at_ : Int)), .int .i64 x5, .int .i64 x6, .int .i64 x7, .int .i64 x8, .slice b0 p0 d0, .slice b1 p1 d1] 29)
            have hlt0 := HoldsL.lt _ _ _ HL.out
            have hlo0 := HO.out.lt
            have hge1 := HO0.out.ge
            have hge2 := HO1.out.ge
            have hN := holdsPk (o := ⟨x0, x1, x2, true, x4 + (at_ : Int), x5, x6, x7, x8, z0, (z1.drop at_).take n⟩) ((HO0.out.mono (show w.heap.size + 1 ≤ W1.heap.size + 2 by omega)).next hal6) ((HO1.out.mono (show w.heap.size + 1 ≤ W1.heap.size + 2 by omega)).next hal6)
            have hR := RowsOf.more (row_below HO.out hWa) (HoldsL.frame _ _ _ HL.out (fun b hb => hWa.block b (hlt0 b hb).2)) HND.out hN (nodupPk HAP.out) (fun q hq hm => by
              have h1 : wr.heap.size ≤ q := by
                rcases List.mem_append.1 hq with h | h
                · have := hge1 q (by simpa using h); omega
                · have := hge2 q (by simpa using h); omega
              rcases List.mem_append.1 hm with h | h
              · have := (hlo0 q (by simpa using h)).2; omega
              · have := (hlt0 q h).2; omega) hown' hgrow (tysL_flat dPacket _ tys_packet _) (tys_packet _)
            rw [← HE.out, ← frs_succ] at hR
            have hbq : Below (w.heap.size + 1) _ w7 := (Below.refl (w.heap.size + 1) _).grown hgrow (by have := hWa.size; omega) (fun k hk => (hlo0 k hk).1)
            have HBf := hide (BoxPacket.keep (HBr.out.next hWa) hbq (Nat.lt_succ_self _))
            have HRf := hide hR
            clear hown' hgrow hnil hWa hal6 hlt0 hlo0 hge1 hge2 hN hR hbq HE HAP HO0 HO1 HW3 HL HND HO HRW HBr
            go_wp2_with fail
            exact ⟨⟨j + 1, at_ + n, by go_num, hide (by rw [Nat.succ_mul, ← HAT.out]), by omega, hide (fun i hi => by rcases Nat.lt_succ_iff_lt_or_eq.1 hi with h | h; exact HLO.out i h; subst h; rw [← HAT.out]; exact hlt), HRf, HBf⟩, by simp [intOf]; omega⟩
          | false =>
            have HE : Hid (dPacket (frag ⟨x0, x1, x2, false, x4, x5, x6, x7, x8, z0, z1⟩ n j) = dPacket ⟨x0, x1, x2, false, x4 + (at_ : Int), x5, x6, x7, x8, z0, (z1.drop at_).take n⟩) := hide (by
              have h1 := HAT.out
              have h2 := HZ1.out
              unfold frag
              simp only
              rw [h1, h2, if_neg (show ¬ (j + 1) * n < n1 by rw [Nat.succ_mul, ← h1]; omega)])
            go_wp2_with fail
            rw [show decide ((at_ : Int) + (n : Int) < (n1 : Int)) = false from decide_eq_false (by omega)]
            clear k0 k1 k2 k3 k4 k5 k6 k7 k8 k9 k10
            have hW1 := HBr.out.1.alloc HBr.out.1.size (.cells #[.int .i64 x0, .int .i64 x1, .bool x2, .bool false, .int .i64 (x4 + (at_ : Int)), .int .i64 x5, .int .i64 x6, .int .i64 x7, .int .i64 x8, .slice a0 n0 c0, .slice (some ⟨b, off + at_, none⟩) n (c1 - at_)] 29)
            have hWr := (Below.refl wr.heap.size wr).alloc (Nat.le_refl _) (.cells #[.int .i64 x0, .int .i64 x1, .bool x2, .bool false, .int .i64 (x4 + (at_ : Int)), .int .i64 x5, .int .i64 x6, .int .i64 x7, .int .i64 x8, .slice a0 n0 c0, .slice (some ⟨b, off + at_, none⟩) n (c1 - at_)] 29)
            have hs1 := World.size_alloc wr (.cells #[.int .i64 x0, .int .i64 x1, .bool x2, .bool false, .int .i64 (x4 + (at_ : Int)), .int .i64 x5, .int .i64 x6, .int .i64 x7, .int .i64 x8, .slice a0 n0 c0, .slice (some ⟨b, off + at_, none⟩) n (c1 - at_)] 29)
            have HW1 := hide hWr
            generalize wr.alloc (.cells #[.int .i64 x0, .int .i64 x1, .bool x2, .bool false, .int .i64 (x4 + (at_ : Int)), .int .i64 x5, .int .i64 x6, .int .i64 x7, .int .i64 x8, .slice a0 n0 c0, .slice (some ⟨b, off + at_, none⟩) n (c1 - at_)] 29) = W1 at *
            refine (copyPacket_walk x0 x1 x2 false (x4 + (at_ : Int)) x5 x6 x7 x8 a0 n0 c0 (some ⟨b, off + at_, none⟩) n (c1 - at_) z0 ((z1.drop at_).take n) W1 HZ0.out (HA0.out.below hW1 (Nat.le_refl _)) m0 q0 (by rw [List.length_take, List.length_drop, HZ1.out]; omega) (((HA1.out.below hW1 (Nat.le_refl _)).drop at_).take n) (by omega) (by omega)).mono ?_
            rintro e w3 ⟨v0, v1, rfl, hO0, hO1, hap, hb3⟩
            obtain ⟨b0, d0, hv0, _⟩ := own_slice hO0
            obtain ⟨b1, d1, hv1, _⟩ := own_slice hO1
            obtain ⟨p0, hp0⟩ : ∃ p, p = z0.length := ⟨_, rfl⟩
            obtain ⟨p1, hp1⟩ : ∃ p, p = ((z1.drop at_).take n).length := ⟨_, rfl⟩
            rw [← hp0] at hv0
            rw [← hp1] at hv1
            subst hv0 hv1
            have HO0 := hide hO0
            have HO1 := hide hO1
            have HAP := hide hap
            have HW3 := hide (HW1.out.trans (hb3.mono (show wr.heap.size ≤ W1.heap.size by omega)))
            have hz3 := hb3.size
            clear hO0 hO1 hap hb3 hp0 hp1 hW1 hWr HW1
            obtain ⟨xs, fs, ho, hl, hnd⟩ := HRW.out
            have HL := hide hl
            have HND := hide hnd
            have HO := hide ho
            have hjb : j ≤ 1048576 := by
              have h1 := HAT.out
              have h2 : j * 1 ≤ j * n := Nat.mul_le_mul_left _ (by omega)
              omega
            clear ho hl hnd
            go_wp2_with (first | (at_builtin; refine wpList_append_own _ rfl _ _ 26 rfl (w.heap.size + 1) 29 inf _ 11 112 Try.underlying26 hi hz0 hz1 hz2 rfl (by decide) u5 j xs rfl ((row_below HO.out HW3.out).alloc _) ⟨w3.heap.size, 0, none⟩ 1 1 [.int .i64 x0, .int .i64 x1, .bool x2, .bool false, .int .i64 (x4 + (at_ : Int)), .int .i64 x5, .int .i64 x6, .int .i64 x7, .int .i64 x8, .slice b0 p0 d0, .slice b1 p1 d1] rfl rfl (by exact news_alloc w3 _ _) (by intro u hu; simp only [List.mem_cons, List.not_mem_nil, or_false] at hu; rcases hu with rfl | rfl | rfl | rfl | rfl | rfl | rfl | rfl | rfl | rfl | rfl <;> rfl) (by unfold maxLen; omega) (by omega) (by rw [World.size_alloc]; omega) ?_))
            intro v' w7 hown' hgrow hnil
            have hWa := HW3.out.alloc HW3.out.size (.cells #[.int .i64 x0, .int .i64 x1, .bool x2, .bool false, .int .i64 (x4 + (at_ : Int)), .int .i64 x5, .int .i64 x6, .int .i64 x7, .int .i64 x8, .slice b0 p0 d0, .slice b1 p1 d1] 29)
            have hal6 := (Below.refl w3.heap.size w3).alloc (Nat.le_refl _) (.cells #[.int .i64 x0, .int .i64 x1, .bool x2, .bool false, .int .i64 (x4 + (at_ : Int)), .int .i64 x5, .int .i64 x6, .int .i64 x7, .int .i64 x8, .slice b0 p0 d0, .slice b1 p1 d1] 29)
            have hlt0 := HoldsL.lt _ _ _ HL.out
            have hlo0 := HO.out.lt
            have hge1 := HO0.out.ge
            have hge2 := HO1.out.ge
            have hN := holdsPk (o := ⟨x0, x1, x2, false, x4 + (at_ : Int), x5, x6, x7, x8, z0, (z1.drop at_).take n⟩) ((HO0.out.mono (show w.heap.size + 1 ≤ W1.heap.size + 2 by omega)).next hal6) ((HO1.out.mono (show w.heap.size + 1 ≤ W1.heap.size + 2 by omega)).next hal6)
            have hR := RowsOf.more (row_below HO.out hWa) (HoldsL.frame _ _ _ HL.out (fun b hb => hWa.block b (hlt0 b hb).2)) HND.out hN (nodupPk HAP.out) (fun q hq hm => by
              have h1 : wr.heap.size ≤ q := by
                rcases List.mem_append.1 hq with h | h
                · have := hge1 q (by simpa using h); omega
                · have := hge2 q (by simpa using h); omega
              rcases List.mem_append.1 hm with h | h
              · have := (hlo0 q (by simpa using h)).2; omega
              · have := (hlt0 q h).2; omega) hown' hgrow (tysL_flat dPacket _ tys_packet _) (tys_packet _)
            rw [← HE.out, ← frs_succ] at hR
            have hbq : Below (w.heap.size + 1) _ w7 := (Below.refl (w.heap.size + 1) _).grown hgrow (by have := hWa.size; omega) (fun k hk => (hlo0 k hk).1)
            have HBf := hide (BoxPacket.keep (HBr.out.next hWa) hbq (Nat.lt_succ_self _))
            have HRf := hide hR
            clear hown' hgrow hnil hWa hal6 hlt0 hlo0 hge1 hge2 hN hR hbq HE HAP HO0 HO1 HW3 HL HND HO HRW HBr
            go_wp2_with fail
            exact ⟨⟨j + 1, at_ + n, by go_num, hide (by rw [Nat.succ_mul, ← HAT.out]), by omega, hide (fun i hi => by rcases Nat.lt_succ_iff_lt_or_eq.1 hi with h | h; exact HLO.out i h; subst h; rw [← HAT.out]; exact hlt), HRf, HBf⟩, by simp [intOf]; omega⟩
    · have hge : n1 ≤ at_ := by omega
      have HJ : Hid (j = frM n1 n) := hide (frM_is n1 n j (by omega) HLO.out (by rw [← HAT.out]; exact hge))
      go_wp2_with fail
      go_ret
      rw [← HJ.out]
      exact ⟨_, rfl, HRW.out, HBr.out.1⟩
end Go.Proofs.Ytednldijgijheaa
