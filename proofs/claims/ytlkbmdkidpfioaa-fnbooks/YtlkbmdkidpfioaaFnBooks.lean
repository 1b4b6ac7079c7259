/-
At every input the law FnBooks of the landed program answers true, and its arguments read afterwards as before.
No conditions.
-/
import Derived.Test.YtlkbmdkidpfioaaRows
import Derived.WalkKit
import Derived.ProofKit
import Derived.OpenShut
import Derived.Test.YtlkbmdkidpfioaaPg
import Derived.Test.YtlkbmdkidpfioaaRows
import Derived.ShutString
import Derived.ChangeOld
import Derived.Below
namespace Go.Proofs.Ytlkbmdkidpfioaa
open Go.ChangeShapes Go.WideShapes Go.ChangeAt Go.RowKit
set_option linter.unusedVariables false
set_option maxRecDepth 100000
set_option maxHeartbeats 16000000 in
theorem walkFnBooks (a0 : Option Addr) (len0 cap0 : Nat) (z0 : List Int) (w : World) (w0 : IsRow .u8 w a0 len0 cap0 z0) :
    Calls Try.prog 3 #[.slice a0 len0 cap0] w fun e w' => e = .returned (.bool true) ∧ Below w.heap.size w w' := by
  obtain ⟨ys, hn, ha⟩ := w0.arr
  have HN := hide hn
  have HA := hide ha
  clear hn ha w0
  by_cases hbig : 1048576 < len0
  · go_enter Try.func3, Try.ntmps3
    go_wp2
    go_ret
    exact ⟨rfl, Below.refl _ _⟩
  · have HY : Hid (ys.length ≤ 2097152) := hide (by rw [HN.out]; omega)
    go_enter Try.func3, Try.ntmps3
    go_wp2_with fail
    refine (lwBegin_walk _ _ _ _ ys _ HN.out HA.out (by omega) (by omega) (by omega)).mono ?_
    rintro e w1 ⟨st, rfl, hs0, hs1, hb1⟩
    have HS1 := hide (LwS.start (n := ys.length) (a := a0) (cap := cap0) hb1 hs0 hs1)
    rw [HN.out] at HS1
    clear hb1
    go_wp2_with fail
    generalize w1.alloc (.cells #[.slice a0 len0 cap0, .int .i64 0, .int .u64 st] 25) = W1 at *
    generalize w1.heap.size = g at *
    clear hs0 hs1
    refine (drawLose_walk a0 len0 cap0 ys W1 HN.out (HA.out.below HS1.out.1 (Nat.le_refl _)) (by omega)).mono ?_
    rintro e w2 ⟨u, x, v, os, rfl, ho2, hl2, hb2⟩
    obtain ⟨a, c, rfl, _, _, _⟩ := arrP_own ho2
    have hgl : g < W1.heap.size := HS1.out.lt
    have hal : Below w2.heap.size w2 (w2.alloc (.cells #[.int .i64 u, .int .i64 x, .slice a os.length c] 29)) := (Below.refl _ _).alloc (Nat.le_refl _) _
    have HK3 : Hid (BkM w (w2.alloc (.cells #[.int .i64 u, .int .i64 x, .slice a os.length c] 29)) g len0 a0 cap0 w2.heap.size u x a os.length c os) := hide ⟨(HS1.out.next hb2).next hal, hv_new w2 _ _, ownP_mono (owns_nx ho2 hal) (Nat.zero_le _), fun k hk => by have := ownsAt.lt ho2 k hk; omega, Nat.le_trans HS1.out.1.size hb2.size, by have := hb2.size; omega, rfl⟩
    clear hal ho2 hb2 HS1
    obtain ⟨n, hnl⟩ : ∃ n, n = os.length := ⟨_, rfl⟩
    rw [← hnl] at HK3 hl2
    simp only [← hnl]
    clear hnl
    go_wp2_with fail
    generalize w2.alloc (.cells #[.int .i64 u, .int .i64 x, .slice a n c] 29) = W3 at *
    generalize w2.heap.size = p at *
    have k0 := HK3.out.2.1.cell 0 _ rfl; have k1 := HK3.out.2.1.cell 1 _ rfl; have k2 := HK3.out.2.1.cell 2 _ rfl; have kf := HK3.out.2.1.frozen
    obtain ⟨har, hnc⟩ := HK3.out.arr
    by_cases hok : bOK u x os
    · have HP := hide (PrM.of hok)
      have HOK := hide hok
      have CS := hide ((specPipe_yes hok) a n c W3 HK3.out.2.2.2.2.2.2 har hnc hl2 trivial)
      obtain ⟨P, hP⟩ : ∃ P, P = pipeS os := ⟨_, rfl⟩
      obtain ⟨L, hL⟩ : ∃ L, L = lostS os := ⟨_, rfl⟩
      obtain ⟨S, hS⟩ : ∃ S, S = sackS os := ⟨_, rfl⟩
      rw [← hP] at CS
      rw [← hP, ← hL, ← hS] at HP
      obtain ⟨-, -, -, p0, l0, s0, psum, u0, ux, x1⟩ := HP.out
      clear hok hP hL hS har
      go_wp2_with fail
      refine CS.out.mono ?_
      rintro e w4 ⟨rfl, hb4⟩
      have HK4 := hide (HK3.out.next hb4)
      clear CS HK3 hb4 k0 k1 k2 kf
      go_wp2_with fail
      go_loopw [6] (fun t w2 => ∃ (i : Nat) (u x P L S : Int) (a : Option Addr) (n c : Nat) (os : List PieceM), t = .int .i64 i ∧ i ≤ 20 ∧ Hid (bOK u x os) ∧ Hid (PrM u x P L S os) ∧ Hid (BkM w w2 g len0 a0 cap0 p u x a n c os)) (fun t _ => 20 - (intOf t).toNat)
      case atStart => exact ⟨0, u, x, P, L, S, a, n, c, os, rfl, by omega, HOK, HP, HK4⟩
      case round =>
        clear HK4 HP HOK p0 l0 s0 psum u0 ux x1 hnc hl2
        obtain ⟨i, u, x, P, L, S, a, n, c, os, rfl, hi, HOK, HP, HK⟩ := hrel
        rename World => W5
        have k0 := HK.out.2.1.cell 0 _ rfl; have k1 := HK.out.2.1.cell 1 _ rfl; have k2 := HK.out.2.1.cell 2 _ rfl; have kf := HK.out.2.1.frozen
        obtain ⟨-, -, -, p0, l0, s0, psum, u0, ux, x1⟩ := HP.out
        by_cases hlt : i < 20
        · skip
          have hal : Below W5.heap.size W5 (W5.alloc (.cells #[.int .i64 u, .int .i64 x, .slice a n c] 29)) := (Below.refl _ _).alloc (Nat.le_refl _) _
          have hpl := HK.out.2.1.lt
          have hgl5 := HK.out.1.lt
          have HK6 := hide (HK.out.next hal)
          have HQ6 : Hid (HoldV (W5.alloc (.cells #[.int .i64 u, .int .i64 x, .slice a n c] 29)) W5.heap.size #[.int .i64 u, .int .i64 x, .slice a n c] 29) := hide (hv_new W5 _ _)
          have HRQ : Hid (∀ k, (Value.slice a n c).ownBlock = some k → k < W5.heap.size) := hide (fun k hk => (ownsAt.lt HK.out.2.2.1 k hk).2)
          have hpw : w.heap.size ≤ p := HK.out.2.2.2.2.1
          obtain ⟨har, hnc⟩ := HK6.out.arr
          have HLN : Hid (os.length = n) := hide HK.out.2.2.2.2.2.2
          have hn4 : n ≤ 4096 := by rw [← HLN.out]; exact HOK.out.2.2.1
          have hwk : w.heap.size ≤ W5.heap.size := HK.out.1.1.size
          clear hal HK
          go_wp2_with fail
          clear k0 k1 k2 kf
          generalize W5.alloc (.cells #[.int .i64 u, .int .i64 x, .slice a n c] 29) = W6 at *
          generalize W5.heap.size = q at *
          refine (parts_call HOK.out HP.out HLN.out har).mono ?_
          rintro e w7 ⟨rfl, hb7⟩
          have HK7 := hide (HK6.out.next hb7); have HQ7 := hide (HQ6.out.next hb7)
          clear har hb7 HK6 HQ6
          go_wp2_with fail
          refine (HK7.out.1.draw HN.out HA.out HY.out 7 (by omega) (by omega)).mono ?_
          rintro e W8 ⟨y, rfl, y0, y1, hg8, hs8⟩
          have HK8 := hide (HK7.out.step hg8 hs8); have HQ8 := hide (HQ7.out.grown hg8 (by omega))
          clear HK7 HQ7 hg8 hs8
          have hy : y = 0 ∨ y = 1 ∨ y = 2 ∨ y = 3 ∨ y = 4 ∨ y = 5 ∨ y = 6 := by omega
          rcases hy with rfl | rfl | rfl | rfl | rfl | rfl | rfl
          · as_aux_lemma =>
              go_wp2_with fail
              refine (HK8.out.1.draw HN.out HA.out HY.out 50 (by omega) (by omega)).mono ?_
              rintro e W9 ⟨r, rfl, pr, qr, hgd, hsd⟩
              have HK9 := hide (HK8.out.step hgd hsd); have HQ9 := hide (HQ8.out.grown hgd (by omega))
              clear HK8 HQ8 hgd hsd
              have hs : sdOK (1 + r) (i : Int) := ⟨⟨by omega, by omega⟩, by omega, by omega⟩
              have HSD := hide hs
              clear hs
              by_cases hf : sdFull x (1 + r) os
              · have HF := hide hf
                clear hf
                have j0 := HQ9.out.cell 0 _ rfl; have j1 := HQ9.out.cell 1 _ rfl; have j2 := HQ9.out.cell 2 _ rfl
                obtain ⟨har, hnc⟩ := HK9.out.arr
                have CC := hide ((specSend_full (1 + r) (i : Int) HOK.out HSD.out HF.out) a n c W9 HLN.out har hnc (by omega) trivial)
                clear har hnc
                go_wp2_with fail
                refine CC.out.mono ?_
                rintro e w10 ⟨v, rfl, ho, hb⟩
                obtain ⟨a2, n2, c2, rfl, ho2, hl2⟩ := own_form ho
                have HK10 := hide (HK9.out.next hb); have HQ10 := hide (HQ9.out.next hb)
                have HO10 := hide ho2; have HL10 := hide hl2
                clear CC ho ho2 hl2 HK9 HQ9
                clear j0 j1 j2 hb
                have hal : Below w10.heap.size w10 (w10.alloc (.cells #[.int .i64 (0), .int .i64 (0), .slice a2 n2 c2] 29)) := (Below.refl _ _).alloc (Nat.le_refl _) _
                have HK11 := hide (HK10.out.next hal); have HQ11 := hide (HQ10.out.next hal)
                have hq10 := HK10.out.2.1.lt; have hq11 := HK11.out.2.1.lt; have hg11 := HK11.out.1.lt
                clear hal HK10 HQ10 HO10 HL10
                have j0 := HQ11.out.cell 0 _ rfl; have j1 := HQ11.out.cell 1 _ rfl; have j2 := HQ11.out.cell 2 _ rfl
                obtain ⟨har, hnc⟩ := HK11.out.arr
                have CC := hide ((implSend_full (1 + r) (i : Int) HOK.out HSD.out HF.out) a n c (w10.alloc (.cells #[.int .i64 (0), .int .i64 (0), .slice a2 n2 c2] 29)) HLN.out har hnc (by omega) trivial)
                clear har hnc
                go_wp2_with fail
                refine CC.out.mono ?_
                rintro e w12 ⟨v, rfl, ho, hb⟩
                obtain ⟨a3, n3, c3, rfl, ho2, hl2⟩ := own_form ho
                have HK12 := hide (HK11.out.next hb); have HQ12 := hide (HQ11.out.next hb)
                have HO12 := hide ho2; have HL12 := hide hl2
                clear CC ho ho2 hl2 hb HK11 HQ11
                clear j0 j1 j2
                have HKZ := hide (HK12.out.put (u' := 0) (x' := 0) HO12.out (own_new HO12.out (by omega) (by omega)) HL12.out)
                have HOR := hide (HK12.out.row (grown3 w12 p (.int .i64 0) (.int .i64 0) (.slice a3 n3 c3)))
                have HNE := hide HK12.out.2.2.2.1
                have HQZ := hide (HQ12.out.grown (grown3 w12 p (.int .i64 0) (.int .i64 0) (.slice a3 n3 c3)) (by omega))
                have k0 := HK12.out.2.1.cell 0 _ rfl; have k1 := HK12.out.2.1.cell 1 _ rfl; have k2 := HK12.out.2.1.cell 2 _ rfl; have kf := HK12.out.2.1.frozen
                clear HK12 HQ12 HO12 HL12
                go_upto_region 24 with fail
                clear k0 k1 k2 kf
                generalize ((w12.setCell ⟨p, 0, none⟩ (.int .i64 (0))).setCell ⟨p, 1, none⟩ (.int .i64 (0))).setCell ⟨p, 2, none⟩ (.slice a3 n3 c3) = W13 at *
                have k0 := HKZ.out.2.1.cell 0 _ rfl; have k1 := HKZ.out.2.1.cell 1 _ rfl; have k2 := HKZ.out.2.1.cell 2 _ rfl; have kf := HKZ.out.2.1.frozen
                have j0 := HQZ.out.cell 0 _ rfl; have j1 := HQZ.out.cell 1 _ rfl; have j2 := HQZ.out.cell 2 _ rfl
                have HKB := hide (HKZ.out.put (u' := u) (x' := x) HOR.out HNE.out HLN.out)
                clear HKZ HOR HQZ
                go_wp2_with fail
                exact ⟨⟨i + 1, _, _, _, _, _, _, _, _, _, by go_num, by omega, HOK, HP, HKB⟩, by simp [intOf]; omega⟩
              · have HF := hide hf
                have hxr : x + (1 + r) ≤ 1099511627776 := by have h2 : ¬ 1099511627776 < x + (1 + r) := fun e => hf (.inr e); omega
                clear hf
                have j0 := HQ9.out.cell 0 _ rfl; have j1 := HQ9.out.cell 1 _ rfl; have j2 := HQ9.out.cell 2 _ rfl
                obtain ⟨har, hnc⟩ := HK9.out.arr
                have CC := hide ((specSend_yes (1 + r) (i : Int) HOK.out HSD.out HF.out) a n c W9 HLN.out har hnc (by omega) trivial)
                clear har hnc
                go_wp2_with fail
                refine CC.out.mono ?_
                rintro e w10 ⟨v, rfl, ho, hb⟩
                obtain ⟨a2, n2, c2, rfl, ho2, hl2⟩ := own_form ho
                have HK10 := hide (HK9.out.next hb); have HQ10 := hide (HQ9.out.next hb)
                have HO10 := hide ho2; have HL10 := hide hl2
                clear CC ho ho2 hl2 HK9 HQ9
                clear j0 j1 j2 hb
                have hal : Below w10.heap.size w10 (w10.alloc (.cells #[.int .i64 (u), .int .i64 (x + (1 + r)), .slice a2 n2 c2] 29)) := (Below.refl _ _).alloc (Nat.le_refl _) _
                have HK11 := hide (HK10.out.next hal); have HQ11 := hide (HQ10.out.next hal)
                have hq10 := HK10.out.2.1.lt; have hq11 := HK11.out.2.1.lt; have hg11 := HK11.out.1.lt
                clear hal HK10 HQ10 HO10 HL10
                have j0 := HQ11.out.cell 0 _ rfl; have j1 := HQ11.out.cell 1 _ rfl; have j2 := HQ11.out.cell 2 _ rfl
                obtain ⟨har, hnc⟩ := HK11.out.arr
                have CC := hide ((implSend_yes (1 + r) (i : Int) HOK.out HSD.out HF.out) a n c (w10.alloc (.cells #[.int .i64 (u), .int .i64 (x + (1 + r)), .slice a2 n2 c2] 29)) HLN.out har hnc (by omega) trivial)
                clear har hnc
                go_wp2_with fail
                refine CC.out.mono ?_
                rintro e w12 ⟨v, rfl, ho, hb⟩
                obtain ⟨a3, n3, c3, rfl, ho2, hl2⟩ := own_form ho
                have HK12 := hide (HK11.out.next hb); have HQ12 := hide (HQ11.out.next hb)
                have HO12 := hide ho2; have HL12 := hide hl2
                clear CC ho ho2 hl2 hb HK11 HQ11
                clear j0 j1 j2
                have HP2 := hide (HP.out.send HOK.out HSD.out HF.out); have HOK2 := hide (bOK_send HOK.out HSD.out HF.out)
                have HKN := hide (HK12.out.put (u' := u) (x' := x + (1 + r)) HO12.out (own_new HO12.out (by omega) (by omega)) HL12.out)
                have HQN := hide (HQ12.out.grown (grown3 w12 p (.int .i64 u) (.int .i64 (x + (1 + r))) (.slice a3 n3 c3)) (by omega))
                have k0 := HK12.out.2.1.cell 0 _ rfl; have k1 := HK12.out.2.1.cell 1 _ rfl; have k2 := HK12.out.2.1.cell 2 _ rfl; have kf := HK12.out.2.1.frozen
                clear HK12 HQ12 HO12 HL12
                go_upto_region 25 with fail
                clear k0 k1 k2 kf
                generalize ((w12.setCell ⟨p, 0, none⟩ (.int .i64 (u))).setCell ⟨p, 1, none⟩ (.int .i64 (x + (1 + r)))).setCell ⟨p, 2, none⟩ (.slice a3 n3 c3) = W13 at *
                have k0 := HKN.out.2.1.cell 0 _ rfl; have k1 := HKN.out.2.1.cell 1 _ rfl; have k2 := HKN.out.2.1.cell 2 _ rfl; have kf := HKN.out.2.1.frozen
                have j0 := HQN.out.cell 0 _ rfl; have j1 := HQN.out.cell 1 _ rfl; have j2 := HQN.out.cell 2 _ rfl
                go_upto_region 58 with fail
                clear k0 k1 k2 kf j0 j1 j2
                simp only [show P + (x + (1 + r)) - x = P + (1 + r) by omega]
                obtain ⟨-, -, -, p2, l2, s2, psum2, _, ux2, x12⟩ := HP2.out
                obtain ⟨har, hnc⟩ := HKN.out.arr
                have HL9 := hide HKN.out.2.2.2.2.2.2
                have C1 := hide (parts_call (c := c3) HOK2.out HP2.out HL9.out har)
                clear har hnc
                have k0 := HKN.out.2.1.cell 0 _ rfl; have k1 := HKN.out.2.1.cell 1 _ rfl; have k2 := HKN.out.2.1.cell 2 _ rfl; have kf := HKN.out.2.1.frozen
                go_wp2_with fail
                refine C1.out.mono ?_
                rintro e wA ⟨rfl, hb⟩
                have HKA := hide (HKN.out.next hb); have HQA := hide (HQN.out.next hb)
                clear C1 HKN HQN hb k0 k1 k2 kf
                obtain ⟨har, hnc⟩ := HKA.out.arr
                have C2 := hide (pipe_call HOK2.out HP2.out HL9.out har hnc)
                clear har hnc
                have k0 := HKA.out.2.1.cell 0 _ rfl; have k1 := HKA.out.2.1.cell 1 _ rfl; have k2 := HKA.out.2.1.cell 2 _ rfl; have kf := HKA.out.2.1.frozen
                have j0 := HQA.out.cell 0 _ rfl; have j1 := HQA.out.cell 1 _ rfl; have j2 := HQA.out.cell 2 _ rfl
                go_wp2_with fail
                refine C2.out.mono ?_
                rintro e wB ⟨rfl, hb⟩
                have HKB := hide (HKA.out.next hb); have HQB := hide (HQA.out.next hb)
                clear C2 HKA HQA hb k0 k1 k2 kf j0 j1 j2
                have k0 := HKB.out.2.1.cell 0 _ rfl; have k1 := HKB.out.2.1.cell 1 _ rfl; have k2 := HKB.out.2.1.cell 2 _ rfl; have kf := HKB.out.2.1.frozen
                have j0 := HQB.out.cell 0 _ rfl; have j1 := HQB.out.cell 1 _ rfl; have j2 := HQB.out.cell 2 _ rfl
                go_wp2_with fail
                exact ⟨⟨i + 1, _, _, _, _, _, _, _, _, _, by go_num, by omega, HOK2, HP2, HKB⟩, by simp [intOf]; omega⟩
          · as_aux_lemma =>
              go_wp2_with fail
              refine (HK8.out.1.draw HN.out HA.out HY.out 50 (by omega) (by omega)).mono ?_
              rintro e W9 ⟨r, rfl, pr, qr, hgd, hsd⟩
              have HK9 := hide (HK8.out.step hgd hsd); have HQ9 := hide (HQ8.out.grown hgd (by omega))
              clear HK8 HQ8 hgd hsd
              have hs : sdOK (1 + r) (i : Int) := ⟨⟨by omega, by omega⟩, by omega, by omega⟩
              have HSD := hide hs
              clear hs
              by_cases hf : sdFull x (1 + r) os
              · have HF := hide hf
                clear hf
                have j0 := HQ9.out.cell 0 _ rfl; have j1 := HQ9.out.cell 1 _ rfl; have j2 := HQ9.out.cell 2 _ rfl
                obtain ⟨har, hnc⟩ := HK9.out.arr
                have CC := hide ((specSend_full (1 + r) (i : Int) HOK.out HSD.out HF.out) a n c W9 HLN.out har hnc (by omega) trivial)
                clear har hnc
                go_wp2_with fail
                refine CC.out.mono ?_
                rintro e w10 ⟨v, rfl, ho, hb⟩
                obtain ⟨a2, n2, c2, rfl, ho2, hl2⟩ := own_form ho
                have HK10 := hide (HK9.out.next hb); have HQ10 := hide (HQ9.out.next hb)
                have HO10 := hide ho2; have HL10 := hide hl2
                clear CC ho ho2 hl2 HK9 HQ9
                clear j0 j1 j2 hb
                have hal : Below w10.heap.size w10 (w10.alloc (.cells #[.int .i64 (0), .int .i64 (0), .slice a2 n2 c2] 29)) := (Below.refl _ _).alloc (Nat.le_refl _) _
                have HK11 := hide (HK10.out.next hal); have HQ11 := hide (HQ10.out.next hal)
                have hq10 := HK10.out.2.1.lt; have hq11 := HK11.out.2.1.lt; have hg11 := HK11.out.1.lt
                clear hal HK10 HQ10 HO10 HL10
                have j0 := HQ11.out.cell 0 _ rfl; have j1 := HQ11.out.cell 1 _ rfl; have j2 := HQ11.out.cell 2 _ rfl
                obtain ⟨har, hnc⟩ := HK11.out.arr
                have CC := hide ((implSend_full (1 + r) (i : Int) HOK.out HSD.out HF.out) a n c (w10.alloc (.cells #[.int .i64 (0), .int .i64 (0), .slice a2 n2 c2] 29)) HLN.out har hnc (by omega) trivial)
                clear har hnc
                go_wp2_with fail
                refine CC.out.mono ?_
                rintro e w12 ⟨v, rfl, ho, hb⟩
                obtain ⟨a3, n3, c3, rfl, ho2, hl2⟩ := own_form ho
                have HK12 := hide (HK11.out.next hb); have HQ12 := hide (HQ11.out.next hb)
                have HO12 := hide ho2; have HL12 := hide hl2
                clear CC ho ho2 hl2 hb HK11 HQ11
                clear j0 j1 j2
                have HKZ := hide (HK12.out.put (u' := 0) (x' := 0) HO12.out (own_new HO12.out (by omega) (by omega)) HL12.out)
                have HOR := hide (HK12.out.row (grown3 w12 p (.int .i64 0) (.int .i64 0) (.slice a3 n3 c3)))
                have HNE := hide HK12.out.2.2.2.1
                have HQZ := hide (HQ12.out.grown (grown3 w12 p (.int .i64 0) (.int .i64 0) (.slice a3 n3 c3)) (by omega))
                have k0 := HK12.out.2.1.cell 0 _ rfl; have k1 := HK12.out.2.1.cell 1 _ rfl; have k2 := HK12.out.2.1.cell 2 _ rfl; have kf := HK12.out.2.1.frozen
                clear HK12 HQ12 HO12 HL12
                go_upto_region 24 with fail
                clear k0 k1 k2 kf
                generalize ((w12.setCell ⟨p, 0, none⟩ (.int .i64 (0))).setCell ⟨p, 1, none⟩ (.int .i64 (0))).setCell ⟨p, 2, none⟩ (.slice a3 n3 c3) = W13 at *
                have k0 := HKZ.out.2.1.cell 0 _ rfl; have k1 := HKZ.out.2.1.cell 1 _ rfl; have k2 := HKZ.out.2.1.cell 2 _ rfl; have kf := HKZ.out.2.1.frozen
                have j0 := HQZ.out.cell 0 _ rfl; have j1 := HQZ.out.cell 1 _ rfl; have j2 := HQZ.out.cell 2 _ rfl
                have HKB := hide (HKZ.out.put (u' := u) (x' := x) HOR.out HNE.out HLN.out)
                clear HKZ HOR HQZ
                go_wp2_with fail
                exact ⟨⟨i + 1, _, _, _, _, _, _, _, _, _, by go_num, by omega, HOK, HP, HKB⟩, by simp [intOf]; omega⟩
              · have HF := hide hf
                have hxr : x + (1 + r) ≤ 1099511627776 := by have h2 : ¬ 1099511627776 < x + (1 + r) := fun e => hf (.inr e); omega
                clear hf
                have j0 := HQ9.out.cell 0 _ rfl; have j1 := HQ9.out.cell 1 _ rfl; have j2 := HQ9.out.cell 2 _ rfl
                obtain ⟨har, hnc⟩ := HK9.out.arr
                have CC := hide ((specSend_yes (1 + r) (i : Int) HOK.out HSD.out HF.out) a n c W9 HLN.out har hnc (by omega) trivial)
                clear har hnc
                go_wp2_with fail
                refine CC.out.mono ?_
                rintro e w10 ⟨v, rfl, ho, hb⟩
                obtain ⟨a2, n2, c2, rfl, ho2, hl2⟩ := own_form ho
                have HK10 := hide (HK9.out.next hb); have HQ10 := hide (HQ9.out.next hb)
                have HO10 := hide ho2; have HL10 := hide hl2
                clear CC ho ho2 hl2 HK9 HQ9
                clear j0 j1 j2 hb
                have hal : Below w10.heap.size w10 (w10.alloc (.cells #[.int .i64 (u), .int .i64 (x + (1 + r)), .slice a2 n2 c2] 29)) := (Below.refl _ _).alloc (Nat.le_refl _) _
                have HK11 := hide (HK10.out.next hal); have HQ11 := hide (HQ10.out.next hal)
                have hq10 := HK10.out.2.1.lt; have hq11 := HK11.out.2.1.lt; have hg11 := HK11.out.1.lt
                clear hal HK10 HQ10 HO10 HL10
                have j0 := HQ11.out.cell 0 _ rfl; have j1 := HQ11.out.cell 1 _ rfl; have j2 := HQ11.out.cell 2 _ rfl
                obtain ⟨har, hnc⟩ := HK11.out.arr
                have CC := hide ((implSend_yes (1 + r) (i : Int) HOK.out HSD.out HF.out) a n c (w10.alloc (.cells #[.int .i64 (u), .int .i64 (x + (1 + r)), .slice a2 n2 c2] 29)) HLN.out har hnc (by omega) trivial)
                clear har hnc
                go_wp2_with fail
                refine CC.out.mono ?_
                rintro e w12 ⟨v, rfl, ho, hb⟩
                obtain ⟨a3, n3, c3, rfl, ho2, hl2⟩ := own_form ho
                have HK12 := hide (HK11.out.next hb); have HQ12 := hide (HQ11.out.next hb)
                have HO12 := hide ho2; have HL12 := hide hl2
                clear CC ho ho2 hl2 hb HK11 HQ11
                clear j0 j1 j2
                have HP2 := hide (HP.out.send HOK.out HSD.out HF.out); have HOK2 := hide (bOK_send HOK.out HSD.out HF.out)
                have HKN := hide (HK12.out.put (u' := u) (x' := x + (1 + r)) HO12.out (own_new HO12.out (by omega) (by omega)) HL12.out)
                have HQN := hide (HQ12.out.grown (grown3 w12 p (.int .i64 u) (.int .i64 (x + (1 + r))) (.slice a3 n3 c3)) (by omega))
                have k0 := HK12.out.2.1.cell 0 _ rfl; have k1 := HK12.out.2.1.cell 1 _ rfl; have k2 := HK12.out.2.1.cell 2 _ rfl; have kf := HK12.out.2.1.frozen
                clear HK12 HQ12 HO12 HL12
                go_upto_region 25 with fail
                clear k0 k1 k2 kf
                generalize ((w12.setCell ⟨p, 0, none⟩ (.int .i64 (u))).setCell ⟨p, 1, none⟩ (.int .i64 (x + (1 + r)))).setCell ⟨p, 2, none⟩ (.slice a3 n3 c3) = W13 at *
                have k0 := HKN.out.2.1.cell 0 _ rfl; have k1 := HKN.out.2.1.cell 1 _ rfl; have k2 := HKN.out.2.1.cell 2 _ rfl; have kf := HKN.out.2.1.frozen
                have j0 := HQN.out.cell 0 _ rfl; have j1 := HQN.out.cell 1 _ rfl; have j2 := HQN.out.cell 2 _ rfl
                go_upto_region 58 with fail
                clear k0 k1 k2 kf j0 j1 j2
                simp only [show P + (x + (1 + r)) - x = P + (1 + r) by omega]
                obtain ⟨-, -, -, p2, l2, s2, psum2, _, ux2, x12⟩ := HP2.out
                obtain ⟨har, hnc⟩ := HKN.out.arr
                have HL9 := hide HKN.out.2.2.2.2.2.2
                have C1 := hide (parts_call (c := c3) HOK2.out HP2.out HL9.out har)
                clear har hnc
                have k0 := HKN.out.2.1.cell 0 _ rfl; have k1 := HKN.out.2.1.cell 1 _ rfl; have k2 := HKN.out.2.1.cell 2 _ rfl; have kf := HKN.out.2.1.frozen
                go_wp2_with fail
                refine C1.out.mono ?_
                rintro e wA ⟨rfl, hb⟩
                have HKA := hide (HKN.out.next hb); have HQA := hide (HQN.out.next hb)
                clear C1 HKN HQN hb k0 k1 k2 kf
                obtain ⟨har, hnc⟩ := HKA.out.arr
                have C2 := hide (pipe_call HOK2.out HP2.out HL9.out har hnc)
                clear har hnc
                have k0 := HKA.out.2.1.cell 0 _ rfl; have k1 := HKA.out.2.1.cell 1 _ rfl; have k2 := HKA.out.2.1.cell 2 _ rfl; have kf := HKA.out.2.1.frozen
                have j0 := HQA.out.cell 0 _ rfl; have j1 := HQA.out.cell 1 _ rfl; have j2 := HQA.out.cell 2 _ rfl
                go_wp2_with fail
                refine C2.out.mono ?_
                rintro e wB ⟨rfl, hb⟩
                have HKB := hide (HKA.out.next hb); have HQB := hide (HQA.out.next hb)
                clear C2 HKA HQA hb k0 k1 k2 kf j0 j1 j2
                have k0 := HKB.out.2.1.cell 0 _ rfl; have k1 := HKB.out.2.1.cell 1 _ rfl; have k2 := HKB.out.2.1.cell 2 _ rfl; have kf := HKB.out.2.1.frozen
                have j0 := HQB.out.cell 0 _ rfl; have j1 := HQB.out.cell 1 _ rfl; have j2 := HQB.out.cell 2 _ rfl
                go_wp2_with fail
                exact ⟨⟨i + 1, _, _, _, _, _, _, _, _, _, by go_num, by omega, HOK2, HP2, HKB⟩, by simp [intOf]; omega⟩
          · as_aux_lemma =>
              have hal : Below W8.heap.size W8 (W8.alloc (.cells #[.int .i64 0, .int .i64 0, .int .i64 0] 39)) := (Below.refl _ _).alloc (Nat.le_refl _) _
              have hq8 := HK8.out.2.1.lt; have hg8 := HK8.out.1.lt; have hqq := HQ8.out.lt; have hw8 : w.heap.size ≤ W8.heap.size := HK8.out.1.1.size
              have HK9 := hide (HK8.out.next hal); have HQ9 := hide (HQ8.out.next hal)
              have HB9 : Hid (HoldV (W8.alloc (.cells #[.int .i64 0, .int .i64 0, .int .i64 0] 39)) W8.heap.size #[.int .i64 0, .int .i64 0, .int .i64 0] 39) := hide (hv_new W8 _ _)
              have HRN : Hid (∀ k, (Value.slice a n c).ownBlock = some k → k < W8.heap.size) := hide (fun k hk => (ownsAt.lt HK8.out.2.2.1 k hk).2)
              clear hal HK8 HQ8
              go_upto_region 28 with fail
              generalize W8.alloc (.cells #[.int .i64 0, .int .i64 0, .int .i64 0] 39) = W9 at *
              generalize W8.heap.size = nb at *
              refine wp_region_last2 (fun W W2 => W.grownBy W2 (some g)) (fun W => BkM w W g len0 a0 cap0 p u x a n c os ∧ HoldV W q #[.int .i64 u, .int .i64 x, .slice a n c] 29 ∧ HoldV W nb #[.int .i64 0, .int .i64 0, .int .i64 0] 39) (A28 q u x) _ rfl (by kernel_rfl) (by kernel_rfl) (by kernel_rfl) (by kernel_rfl) A28_kept ⟨HK9.out.drew, HQ9.out, HB9.out⟩ ?_ ?_
              · clear HK9 HQ9 HB9
                refine EachBut.one _ _ _ ?_ ?_
                · intro v W hB hp KK hKK
                  rw [if_pos (by rfl)]
                  have hp1 : AllOf (A28 q u x) v W [] := hp
                  clear hp
                  simp only [putAll, Act.put, List.setIfInBounds_toArray, List.set_cons_zero, List.set_cons_succ, Nat.reduceAdd] at hKK ⊢
                  clear hp1
                  go_simp
                  refine hKK _ _ (grown_reflp _ _) hB ?_
                  rfl
                refine EachBut.one _ _ _ ?_ ?_
                · intro v W hB hp KK hKK
                  rw [if_pos (by rfl)]
                  have hp1 : AllOf (A28 q u x) v W [0] := hp
                  clear hp
                  simp only [putAll, Act.put, List.setIfInBounds_toArray, List.set_cons_zero, List.set_cons_succ, Nat.reduceAdd] at hKK ⊢
                  have e0 : v 0 = .pointer (some ⟨q, 0, none⟩) := hp1.1
                  have j0 := hB.2.1.cell 0 _ rfl; have j1 := hB.2.1.cell 1 _ rfl; have j2 := hB.2.1.cell 2 _ rfl
                  simp only [e0] at hKK ⊢
                  clear e0
                  clear hp1
                  go_simp
                  refine hKK _ _ (grown_reflp _ _) hB ?_
                  rfl
                refine EachBut.one _ _ _ ?_ ?_
                · intro v W hB hp KK hKK
                  rw [if_pos (by rfl)]
                  have hp1 : AllOf (A28 q u x) v W [] := hp
                  clear hp
                  simp only [putAll, Act.put, List.setIfInBounds_toArray, List.set_cons_zero, List.set_cons_succ, Nat.reduceAdd] at hKK ⊢
                  clear hp1
                  go_simp
                  refine hKK _ _ (grown_reflp _ _) hB ?_
                  rfl
                refine EachBut.one _ _ _ ?_ ?_
                · intro v W hB hp KK hKK
                  rw [if_pos (by rfl)]
                  have hp1 : AllOf (A28 q u x) v W [2] := hp
                  clear hp
                  simp only [putAll, Act.put, List.setIfInBounds_toArray, List.set_cons_zero, List.set_cons_succ, Nat.reduceAdd] at hKK ⊢
                  have e2 : v 2 = .pointer (some ⟨q, 1, none⟩) := hp1.1
                  have j0 := hB.2.1.cell 0 _ rfl; have j1 := hB.2.1.cell 1 _ rfl; have j2 := hB.2.1.cell 2 _ rfl
                  simp only [e2] at hKK ⊢
                  clear e2
                  clear hp1
                  go_simp
                  refine hKK _ _ (grown_reflp _ _) hB ?_
                  rfl
                refine EachBut.one _ _ _ ?_ ?_
                · intro v W hB hp KK hKK
                  rw [if_pos (by rfl)]
                  have hp1 : AllOf (A28 q u x) v W [] := hp
                  clear hp
                  simp only [putAll, Act.put, List.setIfInBounds_toArray, List.set_cons_zero, List.set_cons_succ, Nat.reduceAdd] at hKK ⊢
                  clear hp1
                  go_simp
                  refine hKK _ _ (grown_reflp _ _) hB ?_
                  rfl
                refine EachBut.one _ _ _ ?_ ?_
                · intro v W hB hp KK hKK
                  rw [if_pos (by rfl)]
                  have hp1 : AllOf (A28 q u x) v W [4] := hp
                  clear hp
                  simp only [putAll, Act.put, List.setIfInBounds_toArray, List.set_cons_zero, List.set_cons_succ, Nat.reduceAdd] at hKK ⊢
                  have e4 : v 4 = .pointer (some ⟨q, 0, none⟩) := hp1.1
                  have j0 := hB.2.1.cell 0 _ rfl; have j1 := hB.2.1.cell 1 _ rfl; have j2 := hB.2.1.cell 2 _ rfl
                  simp only [e4] at hKK ⊢
                  clear e4
                  clear hp1
                  go_simp
                  refine hKK _ _ (grown_reflp _ _) hB ?_
                  rfl
                refine EachBut.one _ _ _ ?_ ?_
                · intro v W hB hp KK hKK
                  rw [if_pos (by rfl)]
                  have hp1 : AllOf (A28 q u x) v W [3, 5] := hp
                  clear hp
                  simp only [putAll, Act.put, List.setIfInBounds_toArray, List.set_cons_zero, List.set_cons_succ, Nat.reduceAdd] at hKK ⊢
                  have e3 : v 3 = .int .i64 x := hp1.1
                  have e5 : v 5 = .int .i64 u := hp1.2.1
                  simp only [e3, e5] at hKK ⊢
                  clear e3 e5
                  clear hp1
                  go_simp
                  refine hKK _ _ (grown_reflp _ _) hB ?_
                  exact congrArg (Value.int .i64) (by rw [IntKind.wrap_i64]; omega)
                refine EachBut.one _ _ _ ?_ ?_
                · intro v W hB hp KK hKK
                  rw [if_pos (by rfl)]
                  have hp1 : AllOf (A28 q u x) v W [6] := hp
                  clear hp
                  simp only [putAll, Act.put, List.setIfInBounds_toArray, List.set_cons_zero, List.set_cons_succ, Nat.reduceAdd] at hKK ⊢
                  have e6 : v 6 = .int .i64 (x - u) := hp1.1
                  simp only [e6] at hKK ⊢
                  clear e6
                  clear hp1
                  go_simp
                  refine hKK _ _ (grown_reflp _ _) hB ?_
                  exact congrArg (Value.int .i64) (by rw [IntKind.wrap_i64]; omega)
                refine EachBut.one _ _ _ ?_ ?_
                · intro v W hB hp KK hKK
                  rw [if_pos (by rfl)]
                  have hp1 : AllOf (A28 q u x) v W [7] := hp
                  clear hp
                  simp only [putAll, Act.put, List.setIfInBounds_toArray, List.set_cons_zero, List.set_cons_succ, Nat.reduceAdd] at hKK ⊢
                  have e7 : v 7 = .int .i64 (x - u + 1) := hp1.1
                  simp only [e7] at hKK ⊢
                  clear e7
                  clear hp1
                  go_simp
                  go_at_call 9
                  refine (hB.1.1.draw HN.out HA.out HY.out (x - u + 1) (by omega) (by omega)).mono ?_
                  rintro e W3 ⟨y3, rfl, y30, y31, hg, hs⟩
                  have hB3 : BkM w W3 g len0 a0 cap0 p u x a n c os ∧ HoldV W3 q #[.int .i64 u, .int .i64 x, .slice a n c] 29 ∧ HoldV W3 nb #[.int .i64 0, .int .i64 0, .int .i64 0] 39 := ⟨hB.1.step hg hs, hB.2.1.grown hg (by omega), hB.2.2.grown hg (by omega)⟩
                  clear hB hs
                  go_simp
                  refine hKK _ _ hg hB3 ?_
                  exact ⟨_, rfl, y30, by omega⟩
                refine EachBut.one _ _ _ ?_ ?_
                · intro v W hB hp KK hKK
                  rw [if_pos (by rfl)]
                  have hp1 : AllOf (A28 q u x) v W [1, 8] := hp
                  clear hp
                  simp only [putAll, Act.put, List.setIfInBounds_toArray, List.set_cons_zero, List.set_cons_succ, Nat.reduceAdd] at hKK ⊢
                  have e1 : v 1 = .int .i64 u := hp1.1
                  obtain ⟨y3, e8, y30, y31⟩ := hp1.2.1
                  simp only [e8] at hKK ⊢
                  clear e8
                  simp only [e1] at hKK ⊢
                  clear e1
                  clear hp1
                  go_simp
                  refine hKK _ _ (grown_reflp _ _) hB ?_
                  exact ⟨u + y3, congrArg (Value.int .i64) (by rw [IntKind.wrap_i64]; omega), by omega, by omega⟩
                · exact trivial
              intro v W hB hA KK hKK
              rw [if_pos (by rfl)]
              simp only [putAll, Act.put, List.setIfInBounds_toArray, List.set_cons_zero, List.set_cons_succ, Nat.reduceAdd]
              have p0 : (A28 q u x) 0 (v 0) W := hA 0 (by decide)
              have p1 : (A28 q u x) 1 (v 1) W := hA 1 (by decide)
              have p2 : (A28 q u x) 2 (v 2) W := hA 2 (by decide)
              have p3 : (A28 q u x) 3 (v 3) W := hA 3 (by decide)
              have p4 : (A28 q u x) 4 (v 4) W := hA 4 (by decide)
              have p5 : (A28 q u x) 5 (v 5) W := hA 5 (by decide)
              have p6 : (A28 q u x) 6 (v 6) W := hA 6 (by decide)
              have p7 : (A28 q u x) 7 (v 7) W := hA 7 (by decide)
              have p8 : (A28 q u x) 8 (v 8) W := hA 8 (by decide)
              have p9 : (A28 q u x) 9 (v 9) W := hA 9 (by decide)
              clear hA
              have e0 : v 0 = .pointer (some ⟨q, 0, none⟩) := p0
              have e1 : v 1 = .int .i64 u := p1
              have e2 : v 2 = .pointer (some ⟨q, 1, none⟩) := p2
              have e3 : v 3 = .int .i64 x := p3
              have e4 : v 4 = .pointer (some ⟨q, 0, none⟩) := p4
              have e5 : v 5 = .int .i64 u := p5
              have e6 : v 6 = .int .i64 (x - u) := p6
              have e7 : v 7 = .int .i64 (x - u + 1) := p7
              obtain ⟨r8, e8, _, _⟩ := p8
              obtain ⟨ack, e9, hs0, hs1⟩ := p9
              simp only [e0, e1, e2, e3, e4, e5, e6, e7, e8, e9]
              clear e0 e1 e2 e3 e4 e5 e6 e7 e8 e9 p0 p1 p2 p3 p4 p5 p6 p7
              have HK10 := hide hB.1; have HQ10 := hide hB.2.1; have HB10 := hide hB.2.2
              clear hB
              go_simp
              refine hKK _ _ ?_
              clear hKK KK
              have HS : Hid (u ≤ ack ∧ ack ≤ x) := hide ⟨hs0, hs1⟩
              have m0 := HQ10.out.cell 0 _ rfl; have m1 := HQ10.out.cell 1 _ rfl; have m2 := HQ10.out.cell 2 _ rfl
              go_wp2_with fail
              clear m0 m1 m2
              refine (HK10.out.1.draw HN.out HA.out HY.out (x - ack + 1) (by omega) (by omega)).mono ?_
              rintro e W11 ⟨r2, rfl, pr2, qr2, hgd, hsd⟩
              have HK11 := hide (HK10.out.step hgd hsd); have HQ11 := hide (HQ10.out.grown hgd (by omega)); have HB11 := hide (HB10.out.grown hgd (by omega))
              clear hgd hsd HK10 HQ10 HB10
              go_upto_region 30 with fail
              obtain ⟨X, hX⟩ : ∃ X, X = ack + r2 := ⟨_, rfl⟩
              simp only [← hX]
              have hX1 : ack ≤ X ∧ X ≤ x := by omega
              clear hX
              obtain ⟨hX0, hX2⟩ := hX1
              have HKD := hide HK11.out.drew; have HQD : Hid (HoldV W11.drew q #[.int .i64 u, .int .i64 x, .slice a n c] 29) := HQ11; have HBD : Hid (HoldV W11.drew nb #[.int .i64 0, .int .i64 0, .int .i64 0] 39) := HB11
              clear HK11 HB11
              refine wp_region_lex (fun X => HoldV X q #[.int .i64 u, .int .i64 x, .slice a n c] 29) ((0, true) :: (1, true) :: (2, true) :: (3, true) :: (4, true) :: (5, true) :: (6, true) :: (7, true) :: (8, true) :: (9, false) :: (10, true) :: (11, true) :: (12, false) :: (13, false) :: (14, true) :: (15, true) :: (16, true) :: (17, true) :: (18, false) :: (19, false) :: (20, true) :: []) (by kernel_rfl) (by kernel_rfl) (by kernel_rfl) rfl HQ11.out ?_
              clear HQ11
              refine wpLex_take ?_ rfl (by rfl) (fun _ _ _ h => h) ?_ ?_
              rotate_left
              · intro wq hq
                have j0 := hq.cell 0 _ rfl; have j1 := hq.cell 1 _ rfl; have j2 := hq.cell 2 _ rfl
                first | (go_simp; done) | (go_simp; with_reducible rfl)
              simp only [Act.put, List.setIfInBounds_toArray, List.set_cons_zero, List.set_cons_succ]
              refine wpLex_take ?_ rfl (by rfl) (fun _ _ _ h => h) ?_ ?_
              rotate_left
              · intro wq hq
                have j0 := hq.cell 0 _ rfl; have j1 := hq.cell 1 _ rfl; have j2 := hq.cell 2 _ rfl
                first | (go_simp; done) | (go_simp; with_reducible rfl)
              simp only [Act.put, List.setIfInBounds_toArray, List.set_cons_zero, List.set_cons_succ]
              refine wpLex_take ?_ rfl (by rfl) (fun _ _ _ h => h) ?_ ?_
              rotate_left
              · intro wq hq
                have j0 := hq.cell 0 _ rfl; have j1 := hq.cell 1 _ rfl; have j2 := hq.cell 2 _ rfl
                first | (go_simp; done) | (go_simp; with_reducible rfl)
              simp only [Act.put, List.setIfInBounds_toArray, List.set_cons_zero, List.set_cons_succ]
              refine wpLex_take ?_ rfl (by rfl) (fun _ _ _ h => h) ?_ ?_
              rotate_left
              · intro wq hq
                have j0 := hq.cell 0 _ rfl; have j1 := hq.cell 1 _ rfl; have j2 := hq.cell 2 _ rfl
                first | (go_simp; done) | (go_simp; with_reducible rfl)
              simp only [Act.put, List.setIfInBounds_toArray, List.set_cons_zero, List.set_cons_succ]
              refine wpLex_take ?_ rfl (by rfl) (fun _ _ _ h => h) ?_ ?_
              rotate_left
              · intro wq hq
                have j0 := hq.cell 0 _ rfl; have j1 := hq.cell 1 _ rfl; have j2 := hq.cell 2 _ rfl
                first | (go_simp; done) | (go_simp; with_reducible rfl)
              simp only [Act.put, List.setIfInBounds_toArray, List.set_cons_zero, List.set_cons_succ]
              refine wpLex_take ?_ rfl (by rfl) (fun _ _ _ h => h) ?_ ?_
              rotate_left
              · intro wq hq
                have j0 := hq.cell 0 _ rfl; have j1 := hq.cell 1 _ rfl; have j2 := hq.cell 2 _ rfl
                first | (go_simp; done) | (go_simp; with_reducible rfl)
              simp only [Act.put, List.setIfInBounds_toArray, List.set_cons_zero, List.set_cons_succ]
              refine wpLex_take ?_ rfl (by rfl) (fun _ _ _ h => h) ?_ ?_
              rotate_left
              · intro wq hq
                have j0 := hq.cell 0 _ rfl; have j1 := hq.cell 1 _ rfl; have j2 := hq.cell 2 _ rfl
                first | (go_simp; done) | (go_simp; with_reducible rfl)
              simp only [Act.put, List.setIfInBounds_toArray, List.set_cons_zero, List.set_cons_succ]
              refine wpLex_take ?_ rfl (by rfl) (fun _ _ _ h => h) ?_ ?_
              rotate_left
              · intro wq hq
                have j0 := hq.cell 0 _ rfl; have j1 := hq.cell 1 _ rfl; have j2 := hq.cell 2 _ rfl
                first | (go_simp; done) | (go_simp; with_reducible rfl)
              simp only [Act.put, List.setIfInBounds_toArray, List.set_cons_zero, List.set_cons_succ]
              refine wpLex_take ?_ rfl (by rfl) (fun _ _ _ h => h) ?_ ?_
              rotate_left
              · intro wq hq
                have j0 := hq.cell 0 _ rfl; have j1 := hq.cell 1 _ rfl; have j2 := hq.cell 2 _ rfl
                first | (go_simp; done) | (go_simp; with_reducible rfl)
              simp only [Act.put, List.setIfInBounds_toArray, List.set_cons_zero, List.set_cons_succ]
              have hw1 : IntKind.i64.wrap (x - X) = x - X := by rw [IntKind.wrap_i64]; omega
              have hw2 : IntKind.i64.wrap (x - X + 1) = x - X + 1 := by rw [IntKind.wrap_i64]; omega
              try simp only [hw1, hw2]
              refine wpLex_act rfl (by rfl) ?_
              intro KK hKK
              go_simp
              try simp only [hw1, hw2]
              clear hw1 hw2
              go_at_call 9
              refine (HKD.out.1.draw HN.out HA.out HY.out (x - X + 1) (by omega) (by omega)).mono ?_
              rintro e W12 ⟨r3, rfl, pr3, qr3, hgd, hsd⟩
              have HK12 := hide (HKD.out.step hgd hsd); have HQ12 := hide (HQD.out.grown hgd (by omega)); have HB12 := hide (HBD.out.grown hgd (by omega))
              clear hgd hsd HKD HQD HBD
              try go_simp
              refine hKK.out _ _ HQ12.out ?_
              clear hKK KK
              try simp only [Act.put, List.setIfInBounds_toArray, List.set_cons_zero, List.set_cons_succ]
              refine wpLex_take ?_ rfl (by rfl) (fun _ _ _ h => h) ?_ ?_
              rotate_left
              · intro wq hq
                have j0 := hq.cell 0 _ rfl; have j1 := hq.cell 1 _ rfl; have j2 := hq.cell 2 _ rfl
                first | (go_simp; done) | (go_simp; with_reducible rfl)
              simp only [Act.put, List.setIfInBounds_toArray, List.set_cons_zero, List.set_cons_succ]
              refine wpLex_take ?_ rfl (by rfl) (fun _ _ _ h => h) ?_ ?_
              rotate_left
              · intro wq hq
                have j0 := hq.cell 0 _ rfl; have j1 := hq.cell 1 _ rfl; have j2 := hq.cell 2 _ rfl
                first | (go_simp; done) | (go_simp; with_reducible rfl)
              simp only [Act.put, List.setIfInBounds_toArray, List.set_cons_zero, List.set_cons_succ]
              have hw3 : IntKind.i64.wrap (X + r3) = X + r3 := by rw [IntKind.wrap_i64]; omega
              try simp only [hw3]
              refine wpLex_act rfl (by rfl) ?_
              intro KK hKK
              go_simp
              try simp only [hw3]
              clear hw3
              have hal : Below W12.heap.size W12 (W12.alloc (.cells #[.int .i64 X, .int .i64 (X + r3)] 43)) := (Below.refl _ _).alloc (Nat.le_refl _) _
              have HK13 := hide (HK12.out.next hal); have HQ13 := hide (HQ12.out.next hal); have HB13 := hide (HB12.out.next hal)
              have HZ : Hid (HoldV (W12.alloc (.cells #[.int .i64 X, .int .i64 (X + r3)] 43)) W12.heap.size #[.int .i64 X, .int .i64 (X + r3)] 43) := hide (hv_new W12 _ _)
              clear hal HK12 HQ12 HB12
              refine hKK.out _ _ HQ13.out ?_
              clear hKK KK
              try simp only [Act.put, List.setIfInBounds_toArray, List.set_cons_zero, List.set_cons_succ]
              generalize (W12.alloc (.cells #[.int .i64 X, .int .i64 (X + r3)] 43)) = W13 at *
              generalize W12.heap.size = zb at *
              obtain ⟨P2, L2, S2, G, hp2, hG, hG1, hG2, hG3, hG4⟩ := HP.out.ack (zs := [X, X + r3]) HOK.out HS.out
              obtain ⟨SM, hSM⟩ : ∃ SM, SM = ackS ack os := ⟨_, rfl⟩
              have HP2 := hide hp2; have HOK2 := hide (bOK_ack [X, X + r3] HOK.out HS.out)
              obtain ⟨har, hnc⟩ := HK13.out.arr
              have CC := hide ((implAck_yes ack [X, X + r3] HOK.out HS.out (by simp)) a n c (some ⟨zb, 0, none⟩) 1 1 W13 HLN.out har hnc (by omega) rfl (arrI_two HZ.out) (Nat.le_refl _) (by omega) trivial)
              rw [← hG, ← hSM] at CC
              generalize ackL ack x [X, X + r3] os = os2 at *
              have hq13 := HK13.out.2.1.lt; have hg13 := HK13.out.1.lt; have hb13 := HB13.out.lt; have hqq13 := HQ13.out.lt
              clear har hnc hG hSM hp2 HZ
              refine wpLex_act rfl (by rfl) ?_
              intro KK hKK
              go_simp
              go_at_call 12
              refine CC.out.mono ?_
              rintro e w14 ⟨v, rfl, ho, hb⟩
              obtain ⟨a2, n2, c2, rfl, ho2, hl2⟩ := own_form ho
              have HK14 := hide (HK13.out.next hb); have HQ14 := hide (HQ13.out.next hb); have HB14 := hide (HB13.out.next hb)
              have HO14 := hide ho2; have HL14 := hide hl2
              clear CC ho ho2 hl2 hb HK13 HQ13 HB13
              try go_simp
              refine hKK.out _ _ HQ14.out ?_
              clear hKK KK
              try simp only [Act.put, List.setIfInBounds_toArray, List.set_cons_zero, List.set_cons_succ]
              refine wpLex_take ?_ rfl (by rfl) (fun _ _ _ h => h) ?_ ?_
              rotate_left
              · intro wq hq
                have j0 := hq.cell 0 _ rfl; have j1 := hq.cell 1 _ rfl; have j2 := hq.cell 2 _ rfl
                first | (go_simp; done) | (go_simp; with_reducible rfl)
              simp only [Act.put, List.setIfInBounds_toArray, List.set_cons_zero, List.set_cons_succ]
              refine wpLex_take ?_ rfl (by rfl) (fun _ _ _ h => h) ?_ ?_
              rotate_left
              · intro wq hq
                have j0 := hq.cell 0 _ rfl; have j1 := hq.cell 1 _ rfl; have j2 := hq.cell 2 _ rfl
                first | (go_simp; done) | (go_simp; with_reducible rfl)
              simp only [Act.put, List.setIfInBounds_toArray, List.set_cons_zero, List.set_cons_succ]
              refine wpLex_take ?_ rfl (by rfl) (fun _ _ _ h => h) ?_ ?_
              rotate_left
              · intro wq hq
                have j0 := hq.cell 0 _ rfl; have j1 := hq.cell 1 _ rfl; have j2 := hq.cell 2 _ rfl
                first | (go_simp; done) | (go_simp; with_reducible rfl)
              simp only [Act.put, List.setIfInBounds_toArray, List.set_cons_zero, List.set_cons_succ]
              refine wpLex_take ?_ rfl (by rfl) (fun _ _ _ h => h) ?_ ?_
              rotate_left
              · intro wq hq
                have j0 := hq.cell 0 _ rfl; have j1 := hq.cell 1 _ rfl; have j2 := hq.cell 2 _ rfl
                first | (go_simp; done) | (go_simp; with_reducible rfl)
              simp only [Act.put, List.setIfInBounds_toArray, List.set_cons_zero, List.set_cons_succ]
              have k0 := HK14.out.2.1.cell 0 _ rfl; have k1 := HK14.out.2.1.cell 1 _ rfl; have k2 := HK14.out.2.1.cell 2 _ rfl; have kf := HK14.out.2.1.frozen
              have hg3 : w14.grownBy (((w14.setCell ⟨p, 0, none⟩ (.int .i64 (ack))).setCell ⟨p, 1, none⟩ (.int .i64 (x))).setCell ⟨p, 2, none⟩ (.slice a2 n2 c2)) (some p) := grown3 w14 p _ _ _
              have HKN := hide (HK14.out.put (u' := ack) (x' := x) HO14.out (own_new HO14.out hg13 hq13) HL14.out)
              have HQN := hide (HQ14.out.grown hg3 (by omega)); have HBN := hide (HB14.out.grown hg3 (by omega))
              have HRB : Hid (∀ k, (Value.slice a2 n2 c2).ownBlock = some k → k ≠ nb) := hide (fun k hk => by have := (ownsAt.lt HO14.out k hk).1; omega)
              clear hg3 HK14 HQ14 HB14 HO14 HL14
              refine wpLex_act rfl (by rfl) ?_
              intro KK hKK
              go_simp
              clear k0 k1 k2 kf
              refine hKK.out _ _ HQN.out ?_
              clear hKK KK
              try simp only [Act.put, List.setIfInBounds_toArray, List.set_cons_zero, List.set_cons_succ]
              generalize (((w14.setCell ⟨p, 0, none⟩ (.int .i64 (ack))).setCell ⟨p, 1, none⟩ (.int .i64 (x))).setCell ⟨p, 2, none⟩ (.slice a2 n2 c2)) = W15 at *
              have y0 := HBN.out.cell 0 _ rfl; have y1 := HBN.out.cell 1 _ rfl; have y2 := HBN.out.cell 2 _ rfl; have yf := HBN.out.frozen
              have hg3 : W15.grownBy (((W15.setCell ⟨nb, 0, none⟩ (.int .i64 (ack - u))).setCell ⟨nb, 1, none⟩ (.int .i64 G)).setCell ⟨nb, 2, none⟩ (.int .i64 SM)) (some nb) := grown3 W15 nb _ _ _
              have HKM := hide (HKN.out.other hg3 (by omega) (by omega) (by omega) HRB.out); have HQM := hide (HQN.out.grown hg3 (by omega))
              have HNM : Hid (HoldV (((W15.setCell ⟨nb, 0, none⟩ (.int .i64 (ack - u))).setCell ⟨nb, 1, none⟩ (.int .i64 G)).setCell ⟨nb, 2, none⟩ (.int .i64 SM)) nb #[.int .i64 (ack - u), .int .i64 G, .int .i64 SM] 39) := hide (by have h := hv_set (hv_set (hv_set HBN.out 0 (.int .i64 (ack - u))) 1 (.int .i64 G)) 2 (.int .i64 SM); simp only [List.setIfInBounds_toArray, List.set_cons_zero, List.set_cons_succ] at h; exact h)
              clear hg3 HKN HQN HBN
              refine wpLex_act rfl (by rfl) ?_
              intro KK hKK
              go_simp
              clear y0 y1 y2 yf
              refine hKK.out _ _ HQM.out ?_
              clear hKK KK
              try simp only [Act.put, List.setIfInBounds_toArray, List.set_cons_zero, List.set_cons_succ]
              generalize (((W15.setCell ⟨nb, 0, none⟩ (.int .i64 (ack - u))).setCell ⟨nb, 1, none⟩ (.int .i64 G)).setCell ⟨nb, 2, none⟩ (.int .i64 SM)) = W16 at *
              refine wpLex_take ?_ rfl (by rfl) (fun _ _ _ h => h) ?_ ?_
              rotate_left
              · intro wq hq
                have j0 := hq.cell 0 _ rfl; have j1 := hq.cell 1 _ rfl; have j2 := hq.cell 2 _ rfl
                first | (go_simp; done) | (go_simp; with_reducible rfl)
              simp only [Act.put, List.setIfInBounds_toArray, List.set_cons_zero, List.set_cons_succ]
              refine wpLex_nil ?_
              as_aux_lemma =>
                obtain ⟨-, -, -, p2, l2, s2, psum2, _, ux2, x12⟩ := HP2.out
                obtain ⟨har, hnc⟩ := HKM.out.arr
                have HL9 := hide HKM.out.2.2.2.2.2.2
                have C1 := hide (parts_call (c := c2) HOK2.out HP2.out HL9.out har)
                clear har hnc
                have k0 := HKM.out.2.1.cell 0 _ rfl; have k1 := HKM.out.2.1.cell 1 _ rfl; have k2 := HKM.out.2.1.cell 2 _ rfl; have kf := HKM.out.2.1.frozen
                go_upto_region 31 with fail
                go_wp2_with fail
                refine C1.out.mono ?_
                rintro e wA ⟨rfl, hb⟩
                have HKA := hide (HKM.out.next hb); have HQA := hide (HQM.out.next hb); have HNA := hide (HNM.out.next hb)
                clear C1 HKM HQM HNM hb k0 k1 k2 kf
                obtain ⟨har, hnc⟩ := HKA.out.arr
                have C2 := hide (pipe_call HOK2.out HP2.out HL9.out har hnc)
                clear har hnc
                have k0 := HKA.out.2.1.cell 0 _ rfl; have k1 := HKA.out.2.1.cell 1 _ rfl; have k2 := HKA.out.2.1.cell 2 _ rfl; have kf := HKA.out.2.1.frozen
                have j0 := HQA.out.cell 0 _ rfl; have j1 := HQA.out.cell 1 _ rfl; have j2 := HQA.out.cell 2 _ rfl
                have y0 := HNA.out.cell 0 _ rfl; have y1 := HNA.out.cell 1 _ rfl; have y2 := HNA.out.cell 2 _ rfl
                go_upto_region 32 with fail
                go_wp2_with fail
                refine C2.out.mono ?_
                rintro e wB ⟨rfl, hb⟩
                have HKB := hide (HKA.out.next hb)
                clear C2 HKA HQA HNA hb k0 k1 k2 kf j0 j1 j2 y0 y1 y2
                go_wp2_with fail
                exact ⟨⟨i + 1, _, _, _, _, _, _, _, _, _, by go_num, by omega, HOK2, HP2, HKB⟩, by simp [intOf]; omega⟩
          · as_aux_lemma =>
              have k0 := HK8.out.2.1.cell 0 _ rfl; have k1 := HK8.out.2.1.cell 1 _ rfl; have k2 := HK8.out.2.1.cell 2 _ rfl; have kf := HK8.out.2.1.frozen
              have hq8 := HK8.out.2.1.lt; have hg8 := HK8.out.1.lt; have hqq := HQ8.out.lt
              obtain ⟨N, hN⟩ : ∃ N, N = loseN os := ⟨_, rfl⟩
              have HP2 := hide (HP.out.lose HOK.out); have HOK2 := hide (bOK_lose HOK.out)
              rw [← hN] at HP2
              have hbd : (0 ≤ P - N ∧ P - N ≤ 1099511627776) ∧ 0 ≤ L + N ∧ L + N ≤ 1099511627776 := by obtain ⟨-, -, -, b1, b2, b3, b4, b5, b6, b7⟩ := HP2.out; omega
              obtain ⟨⟨b1, b2⟩, b3, b4⟩ := hbd
              have HNN := hide hN
              clear hN
              obtain ⟨har, hnc⟩ := HK8.out.arr
              have CC := hide ((implLose_yes HOK.out) a n c W8 HLN.out har hnc (by omega) trivial)
              clear har hnc
              go_wp2_with fail
              refine CC.out.mono ?_
              rintro e w9 ⟨v, rfl, ho, hb⟩
              obtain ⟨a2, n2, c2, rfl, ho2, hl2⟩ := own_form ho
              have HK9 := hide (HK8.out.next hb); have HQ9 := hide (HQ8.out.next hb)
              have HO9 := hide ho2; have HL9 := hide hl2
              clear CC ho ho2 hl2 HK8 HQ8
              rw [← HNN.out]
              clear k0 k1 k2 kf
              have k0 := HK9.out.2.1.cell 0 _ rfl; have k1 := HK9.out.2.1.cell 1 _ rfl; have k2 := HK9.out.2.1.cell 2 _ rfl; have kf := HK9.out.2.1.frozen
              have HKN := hide (HK9.out.put (u' := u) (x' := x) HO9.out (own_new HO9.out (by omega) (by omega)) HL9.out)
              have HQN := hide (HQ9.out.grown (grown3 w9 p (.int .i64 u) (.int .i64 x) (.slice a2 n2 c2)) (by omega))
              clear HK9 HQ9 HO9 HL9
              go_upto_region 58 with fail
              clear k0 k1 k2 kf
              generalize ((w9.setCell ⟨p, 0, none⟩ (.int .i64 u)).setCell ⟨p, 1, none⟩ (.int .i64 x)).setCell ⟨p, 2, none⟩ (.slice a2 n2 c2) = W10 at *
              obtain ⟨P2, hP2⟩ : ∃ P2, P2 = P - N := ⟨_, rfl⟩
              obtain ⟨L2, hL2⟩ : ∃ L2, L2 = L + N := ⟨_, rfl⟩
              rw [← hP2, ← hL2] at HP2
              simp only [← hP2, ← hL2]
              clear hP2 hL2 HNN psum b1 b2 b3 b4
              obtain ⟨-, -, -, p2, l2, s2, psum2, _, ux2, x12⟩ := HP2.out
              obtain ⟨har, hnc⟩ := HKN.out.arr
              have HL9 := hide HKN.out.2.2.2.2.2.2
              have C1 := hide (parts_call (c := c2) HOK2.out HP2.out HL9.out har)
              clear har hnc
              have k0 := HKN.out.2.1.cell 0 _ rfl; have k1 := HKN.out.2.1.cell 1 _ rfl; have k2 := HKN.out.2.1.cell 2 _ rfl; have kf := HKN.out.2.1.frozen
              go_wp2_with fail
              refine C1.out.mono ?_
              rintro e wA ⟨rfl, hb⟩
              have HKA := hide (HKN.out.next hb); have HQA := hide (HQN.out.next hb)
              clear C1 HKN HQN hb k0 k1 k2 kf
              obtain ⟨har, hnc⟩ := HKA.out.arr
              have C2 := hide (pipe_call HOK2.out HP2.out HL9.out har hnc)
              clear har hnc
              have k0 := HKA.out.2.1.cell 0 _ rfl; have k1 := HKA.out.2.1.cell 1 _ rfl; have k2 := HKA.out.2.1.cell 2 _ rfl; have kf := HKA.out.2.1.frozen
              have j0 := HQA.out.cell 0 _ rfl; have j1 := HQA.out.cell 1 _ rfl; have j2 := HQA.out.cell 2 _ rfl
              go_wp2_with fail
              refine C2.out.mono ?_
              rintro e wB ⟨rfl, hb⟩
              have HKB := hide (HKA.out.next hb); have HQB := hide (HQA.out.next hb)
              clear C2 HKA HQA hb k0 k1 k2 kf j0 j1 j2
              have k0 := HKB.out.2.1.cell 0 _ rfl; have k1 := HKB.out.2.1.cell 1 _ rfl; have k2 := HKB.out.2.1.cell 2 _ rfl; have kf := HKB.out.2.1.frozen
              have j0 := HQB.out.cell 0 _ rfl; have j1 := HQB.out.cell 1 _ rfl; have j2 := HQB.out.cell 2 _ rfl
              go_wp2_with fail
              exact ⟨⟨i + 1, _, _, _, _, _, _, _, _, _, by go_num, by omega, HOK2, HP2, HKB⟩, by simp [intOf]; omega⟩
          · as_aux_lemma =>
              have k0 := HK8.out.2.1.cell 0 _ rfl; have k1 := HK8.out.2.1.cell 1 _ rfl; have k2 := HK8.out.2.1.cell 2 _ rfl; have kf := HK8.out.2.1.frozen
              have hq8 := HK8.out.2.1.lt; have hg8 := HK8.out.1.lt; have hqq := HQ8.out.lt
              obtain ⟨N, hN⟩ : ∃ N, N = firstN os := ⟨_, rfl⟩
              have HP2 := hide (HP.out.first HOK.out); have HOK2 := hide (bOK_first HOK.out)
              rw [← hN] at HP2
              have hbd : (0 ≤ P - N ∧ P - N ≤ 1099511627776) ∧ 0 ≤ L + N ∧ L + N ≤ 1099511627776 := by obtain ⟨-, -, -, b1, b2, b3, b4, b5, b6, b7⟩ := HP2.out; omega
              obtain ⟨⟨b1, b2⟩, b3, b4⟩ := hbd
              have HNN := hide hN
              clear hN
              obtain ⟨har, hnc⟩ := HK8.out.arr
              have CC := hide ((implFirst_yes HOK.out) a n c W8 HLN.out har hnc (by omega) trivial)
              clear har hnc
              go_wp2_with fail
              refine CC.out.mono ?_
              rintro e w9 ⟨v, rfl, ho, hb⟩
              obtain ⟨a2, n2, c2, rfl, ho2, hl2⟩ := own_form ho
              have HK9 := hide (HK8.out.next hb); have HQ9 := hide (HQ8.out.next hb)
              have HO9 := hide ho2; have HL9 := hide hl2
              clear CC ho ho2 hl2 HK8 HQ8
              rw [← HNN.out]
              clear k0 k1 k2 kf
              have k0 := HK9.out.2.1.cell 0 _ rfl; have k1 := HK9.out.2.1.cell 1 _ rfl; have k2 := HK9.out.2.1.cell 2 _ rfl; have kf := HK9.out.2.1.frozen
              have HKN := hide (HK9.out.put (u' := u) (x' := x) HO9.out (own_new HO9.out (by omega) (by omega)) HL9.out)
              have HQN := hide (HQ9.out.grown (grown3 w9 p (.int .i64 u) (.int .i64 x) (.slice a2 n2 c2)) (by omega))
              clear HK9 HQ9 HO9 HL9
              go_upto_region 58 with fail
              clear k0 k1 k2 kf
              generalize ((w9.setCell ⟨p, 0, none⟩ (.int .i64 u)).setCell ⟨p, 1, none⟩ (.int .i64 x)).setCell ⟨p, 2, none⟩ (.slice a2 n2 c2) = W10 at *
              obtain ⟨P2, hP2⟩ : ∃ P2, P2 = P - N := ⟨_, rfl⟩
              obtain ⟨L2, hL2⟩ : ∃ L2, L2 = L + N := ⟨_, rfl⟩
              rw [← hP2, ← hL2] at HP2
              simp only [← hP2, ← hL2]
              clear hP2 hL2 HNN psum b1 b2 b3 b4
              obtain ⟨-, -, -, p2, l2, s2, psum2, _, ux2, x12⟩ := HP2.out
              obtain ⟨har, hnc⟩ := HKN.out.arr
              have HL9 := hide HKN.out.2.2.2.2.2.2
              have C1 := hide (parts_call (c := c2) HOK2.out HP2.out HL9.out har)
              clear har hnc
              have k0 := HKN.out.2.1.cell 0 _ rfl; have k1 := HKN.out.2.1.cell 1 _ rfl; have k2 := HKN.out.2.1.cell 2 _ rfl; have kf := HKN.out.2.1.frozen
              go_wp2_with fail
              refine C1.out.mono ?_
              rintro e wA ⟨rfl, hb⟩
              have HKA := hide (HKN.out.next hb); have HQA := hide (HQN.out.next hb)
              clear C1 HKN HQN hb k0 k1 k2 kf
              obtain ⟨har, hnc⟩ := HKA.out.arr
              have C2 := hide (pipe_call HOK2.out HP2.out HL9.out har hnc)
              clear har hnc
              have k0 := HKA.out.2.1.cell 0 _ rfl; have k1 := HKA.out.2.1.cell 1 _ rfl; have k2 := HKA.out.2.1.cell 2 _ rfl; have kf := HKA.out.2.1.frozen
              have j0 := HQA.out.cell 0 _ rfl; have j1 := HQA.out.cell 1 _ rfl; have j2 := HQA.out.cell 2 _ rfl
              go_wp2_with fail
              refine C2.out.mono ?_
              rintro e wB ⟨rfl, hb⟩
              have HKB := hide (HKA.out.next hb); have HQB := hide (HQA.out.next hb)
              clear C2 HKA HQA hb k0 k1 k2 kf j0 j1 j2
              have k0 := HKB.out.2.1.cell 0 _ rfl; have k1 := HKB.out.2.1.cell 1 _ rfl; have k2 := HKB.out.2.1.cell 2 _ rfl; have kf := HKB.out.2.1.frozen
              have j0 := HQB.out.cell 0 _ rfl; have j1 := HQB.out.cell 1 _ rfl; have j2 := HQB.out.cell 2 _ rfl
              go_wp2_with fail
              exact ⟨⟨i + 1, _, _, _, _, _, _, _, _, _, by go_num, by omega, HOK2, HP2, HKB⟩, by simp [intOf]; omega⟩
          · as_aux_lemma =>
              have k0 := HK8.out.2.1.cell 0 _ rfl; have k1 := HK8.out.2.1.cell 1 _ rfl; have k2 := HK8.out.2.1.cell 2 _ rfl; have kf := HK8.out.2.1.frozen
              have hq8 := HK8.out.2.1.lt; have hg8 := HK8.out.1.lt; have hqq := HQ8.out.lt
              rcases again_split 7 os with ⟨_, hno⟩ | ⟨A0, qq, B0, hos, h5, hA0, _⟩
              · have hL0 : L = 0 := HP.out.2.1.trans (lost_none os hno)
                have HNO := hide hno
                clear hno
                subst hL0
                obtain ⟨har, hnc⟩ := HK8.out.arr
                have CC := hide ((implAgain_none 7 HOK.out (by omega) HNO.out) a n c W8 HLN.out har hnc (by omega) trivial)
                clear har hnc
                go_wp2_with fail
                refine CC.out.mono ?_
                rintro e w9 ⟨v, rfl, ho, hb⟩
                obtain ⟨a2, n2, c2, rfl, ho2, hl2⟩ := own_form ho
                have HK9 := hide (HK8.out.next hb); have HQ9 := hide (HQ8.out.next hb)
                have HO9 := hide ho2; have HL9 := hide hl2
                clear CC ho ho2 hl2 HK8 HQ8
                clear k0 k1 k2 kf hb
                obtain ⟨hb2, _, _⟩ := two_boxes w9 #[.int .i64 0, .int .i64 0, .slice a2 n2 c2] #[.int .i64 0, .int .i64 0, .int .i64 0, .int .i64 0, .bool false, .bool false] 29 48
                have HKN := hide (HK9.out.next hb2); have HQN := hide (HQ9.out.next hb2)
                clear hb2 HK9 HQ9 HO9 HL9
                have HP2 := HP; have HOK2 := HOK
                go_upto_region 58 with fail
                generalize ((w9.alloc (.cells #[.int .i64 0, .int .i64 0, .slice a2 n2 c2] 29)).alloc (.cells #[.int .i64 0, .int .i64 0, .int .i64 0, .int .i64 0, .bool false, .bool false] 48)) = W10 at *
                obtain ⟨-, -, -, p2, l2, s2, psum2, _, ux2, x12⟩ := HP2.out
                obtain ⟨har, hnc⟩ := HKN.out.arr
                have HL9 := hide HKN.out.2.2.2.2.2.2
                have C1 := hide (parts_call (c := c) HOK2.out HP2.out HL9.out har)
                clear har hnc
                have k0 := HKN.out.2.1.cell 0 _ rfl; have k1 := HKN.out.2.1.cell 1 _ rfl; have k2 := HKN.out.2.1.cell 2 _ rfl; have kf := HKN.out.2.1.frozen
                go_wp2_with fail
                refine C1.out.mono ?_
                rintro e wA ⟨rfl, hb⟩
                have HKA := hide (HKN.out.next hb); have HQA := hide (HQN.out.next hb)
                clear C1 HKN HQN hb k0 k1 k2 kf
                obtain ⟨har, hnc⟩ := HKA.out.arr
                have C2 := hide (pipe_call HOK2.out HP2.out HL9.out har hnc)
                clear har hnc
                have k0 := HKA.out.2.1.cell 0 _ rfl; have k1 := HKA.out.2.1.cell 1 _ rfl; have k2 := HKA.out.2.1.cell 2 _ rfl; have kf := HKA.out.2.1.frozen
                have j0 := HQA.out.cell 0 _ rfl; have j1 := HQA.out.cell 1 _ rfl; have j2 := HQA.out.cell 2 _ rfl
                go_wp2_with fail
                refine C2.out.mono ?_
                rintro e wB ⟨rfl, hb⟩
                have HKB := hide (HKA.out.next hb); have HQB := hide (HQA.out.next hb)
                clear C2 HKA HQA hb k0 k1 k2 kf j0 j1 j2
                have k0 := HKB.out.2.1.cell 0 _ rfl; have k1 := HKB.out.2.1.cell 1 _ rfl; have k2 := HKB.out.2.1.cell 2 _ rfl; have kf := HKB.out.2.1.frozen
                have j0 := HQB.out.cell 0 _ rfl; have j1 := HQB.out.cell 1 _ rfl; have j2 := HQB.out.cell 2 _ rfl
                go_wp2_with fail
                exact ⟨⟨i + 1, _, _, _, _, _, _, _, _, _, by go_num, by omega, HOK2, HP2, HKB⟩, by simp [intOf]; omega⟩
              · subst hos
                have hpc := bOK_piece HOK.out (o := qq) (by simp)
                have h4 : qq.f4 = false := by
                  have hv := (chk_mem _ _ _ HOK.out.2.2.2 qq (by simp)).2.2
                  cases h : qq.f4 with
                  | false => rfl
                  | true => exact absurd ⟨h, h5⟩ hv.2.2.2
                have hLp : 0 < L := by rw [HP.out.2.1]; exact lost_some (fun o ho => (bOK_piece HOK.out ho).2.1) h5
                have HP2 := hide (HP.out.again (t := 7) HOK.out (by omega) h5 h4)
                have HOK2 := hide (bOK_again (t := 7) HOK.out (by omega))
                have H5 := hide h5; have HA0 := hide hA0
                clear h5 hA0 h4
                obtain ⟨har, hnc⟩ := HK8.out.arr
                have CC := hide ((implAgain_yes 7 HOK.out (by omega) A0 B0 qq rfl H5.out HA0.out) a n c W8 HLN.out har hnc (by omega) trivial)
                clear har hnc
                go_wp2_with fail
                refine CC.out.mono ?_
                rintro e w9 ⟨v, rfl, ho, hb⟩
                obtain ⟨a2, n2, c2, rfl, ho2, hl2⟩ := own_form ho
                have HK9 := hide (HK8.out.next hb); have HQ9 := hide (HQ8.out.next hb)
                have HO9 := hide ho2; have HL9 := hide hl2
                clear CC ho ho2 hl2 HK8 HQ8
                clear k0 k1 k2 kf
                obtain ⟨m3, hm3⟩ : ∃ m3, m3 = min (qq.f3 + 1) 1000000 := ⟨_, rfl⟩
                rw [← hm3]
                generalize againP 7 qq = rq at *
                clear hm3 H5
                obtain ⟨y0, y1, y2, y3, y4, y5⟩ := qq
                dsimp only at hpc HP2 ⊢
                obtain ⟨hb2, hx2, hx3⟩ := two_boxes w9 #[.int .i64 u, .int .i64 x, .slice a2 n2 c2] #[.int .i64 y0, .int .i64 y1, .int .i64 7, .int .i64 m3, .bool y4, .bool false] 29 48
                have HK10 := hide (HK9.out.next hb2); have HQ10 := hide (HQ9.out.next hb2); have HO10 := hide (owns_nx HO9.out hb2)
                have HX := hide hx2; have HX2 := hide hx3; have HL10 := HL9
                have hw9 : p < w9.heap.size := HK9.out.2.1.lt
                have hw8 := hb.size
                clear hb hb2 hx2 hx3 HK9 HQ9 HO9 HL9
                go_upto_region 46 with fail
                generalize ((w9.alloc (.cells #[.int .i64 u, .int .i64 x, .slice a2 n2 c2] 29)).alloc (.cells #[.int .i64 y0, .int .i64 y1, .int .i64 7, .int .i64 m3, .bool y4, .bool false] 48)) = W10 at *
                generalize w9.heap.size = q9 at *
                have HKN := hide (HK10.out.put (u' := u) (x' := x) HO10.out (own_new HO10.out (by omega) (by omega)) HL10.out)
                have hg3 := grown3 W10 p (.int .i64 u) (.int .i64 x) (.slice a2 n2 c2)
                have HQN := hide (HQ10.out.grown hg3 (by omega))
                have HX3 := hide (HX2.out.grown hg3 (by omega))
                have z0 := HX.out.cell 0 _ rfl; have z1 := HX.out.cell 1 _ rfl; have z2 := HX.out.cell 2 _ rfl
                have k0 := HK10.out.2.1.cell 0 _ rfl; have k1 := HK10.out.2.1.cell 1 _ rfl; have k2 := HK10.out.2.1.cell 2 _ rfl; have kf := HK10.out.2.1.frozen
                clear hg3 HX HX2 HK10 HQ10 HO10 HL10
                go_upto_region 48 with fail
                clear k0 k1 k2 kf z0 z1 z2
                generalize ((W10.setCell ⟨p, 0, none⟩ (.int .i64 (u))).setCell ⟨p, 1, none⟩ (.int .i64 (x))).setCell ⟨p, 2, none⟩ (.slice a2 n2 c2) = W13 at *
                have z0 := HX3.out.cell 0 (.int .i64 y0) rfl; have z1 := HX3.out.cell 1 (.int .i64 y1) rfl
                go_upto_region 58 with fail
                clear z0 z1 HX3
                simp only [show P + y1 - y0 = P + (y1 - y0) by omega]
                obtain ⟨-, -, -, p2, l2, s2, psum2, _, ux2, x12⟩ := HP2.out
                obtain ⟨har, hnc⟩ := HKN.out.arr
                have HL9 := hide HKN.out.2.2.2.2.2.2
                have C1 := hide (parts_call (c := c2) HOK2.out HP2.out HL9.out har)
                clear har hnc
                have k0 := HKN.out.2.1.cell 0 _ rfl; have k1 := HKN.out.2.1.cell 1 _ rfl; have k2 := HKN.out.2.1.cell 2 _ rfl; have kf := HKN.out.2.1.frozen
                go_wp2_with fail
                refine C1.out.mono ?_
                rintro e wA ⟨rfl, hb⟩
                have HKA := hide (HKN.out.next hb); have HQA := hide (HQN.out.next hb)
                clear C1 HKN HQN hb k0 k1 k2 kf
                obtain ⟨har, hnc⟩ := HKA.out.arr
                have C2 := hide (pipe_call HOK2.out HP2.out HL9.out har hnc)
                clear har hnc
                have k0 := HKA.out.2.1.cell 0 _ rfl; have k1 := HKA.out.2.1.cell 1 _ rfl; have k2 := HKA.out.2.1.cell 2 _ rfl; have kf := HKA.out.2.1.frozen
                have j0 := HQA.out.cell 0 _ rfl; have j1 := HQA.out.cell 1 _ rfl; have j2 := HQA.out.cell 2 _ rfl
                go_wp2_with fail
                refine C2.out.mono ?_
                rintro e wB ⟨rfl, hb⟩
                have HKB := hide (HKA.out.next hb); have HQB := hide (HQA.out.next hb)
                clear C2 HKA HQA hb k0 k1 k2 kf j0 j1 j2
                have k0 := HKB.out.2.1.cell 0 _ rfl; have k1 := HKB.out.2.1.cell 1 _ rfl; have k2 := HKB.out.2.1.cell 2 _ rfl; have kf := HKB.out.2.1.frozen
                have j0 := HQB.out.cell 0 _ rfl; have j1 := HQB.out.cell 1 _ rfl; have j2 := HQB.out.cell 2 _ rfl
                go_wp2_with fail
                exact ⟨⟨i + 1, _, _, _, _, _, _, _, _, _, by go_num, by omega, HOK2, HP2, HKB⟩, by simp [intOf]; omega⟩
          · as_aux_lemma =>
              go_wp2_with fail
              refine (HK8.out.1.draw HN.out HA.out HY.out 9 (by omega) (by omega)).mono ?_
              rintro e W9 ⟨r, rfl, pr, qr, hgd, hsd⟩
              have HK9 := hide (HK8.out.step hgd hsd); have HQ9 := hide (HQ8.out.grown hgd (by omega))
              clear HK8 HQ8 hgd hsd
              have HSD : Hid (1 ≤ 1 + r ∧ 1 + r ≤ 65535) := hide ⟨by omega, by omega⟩
              by_cases hf : 4096 < cntS (1 + r) os
              · have HF := hide hf
                clear hf
                have j0 := HQ9.out.cell 0 _ rfl; have j1 := HQ9.out.cell 1 _ rfl; have j2 := HQ9.out.cell 2 _ rfl
                obtain ⟨har, hnc⟩ := HK9.out.arr
                have CC := hide ((specSplit_full (1 + r) HOK.out HSD.out HF.out) a n c W9 HLN.out har hnc (by omega) trivial)
                clear har hnc
                go_wp2_with fail
                refine CC.out.mono ?_
                rintro e w10 ⟨v, rfl, ho, hb⟩
                obtain ⟨a2, n2, c2, rfl, ho2, hl2⟩ := own_form ho
                have HK10 := hide (HK9.out.next hb); have HQ10 := hide (HQ9.out.next hb)
                have HO10 := hide ho2; have HL10 := hide hl2
                clear CC ho ho2 hl2 HK9 HQ9
                clear j0 j1 j2 hb
                have hal : Below w10.heap.size w10 (w10.alloc (.cells #[.int .i64 (0), .int .i64 (0), .slice a2 n2 c2] 29)) := (Below.refl _ _).alloc (Nat.le_refl _) _
                have HK11 := hide (HK10.out.next hal); have HQ11 := hide (HQ10.out.next hal)
                have hq10 := HK10.out.2.1.lt; have hq11 := HK11.out.2.1.lt; have hg11 := HK11.out.1.lt
                clear hal HK10 HQ10 HO10 HL10
                have j0 := HQ11.out.cell 0 _ rfl; have j1 := HQ11.out.cell 1 _ rfl; have j2 := HQ11.out.cell 2 _ rfl
                obtain ⟨har, hnc⟩ := HK11.out.arr
                have CC := hide ((implSplit_full (1 + r) HOK.out HSD.out HF.out) a n c (w10.alloc (.cells #[.int .i64 (0), .int .i64 (0), .slice a2 n2 c2] 29)) HLN.out har hnc (by omega) trivial)
                clear har hnc
                go_wp2_with fail
                refine CC.out.mono ?_
                rintro e w12 ⟨v, rfl, ho, hb⟩
                obtain ⟨a3, n3, c3, rfl, ho2, hl2⟩ := own_form ho
                have HK12 := hide (HK11.out.next hb); have HQ12 := hide (HQ11.out.next hb)
                have HO12 := hide ho2; have HL12 := hide hl2
                clear CC ho ho2 hl2 hb HK11 HQ11
                clear j0 j1 j2
                have HKZ := hide (HK12.out.put (u' := 0) (x' := 0) HO12.out (own_new HO12.out (by omega) (by omega)) HL12.out)
                have HOR := hide (HK12.out.row (grown3 w12 p (.int .i64 0) (.int .i64 0) (.slice a3 n3 c3)))
                have HNE := hide HK12.out.2.2.2.1
                have HQZ := hide (HQ12.out.grown (grown3 w12 p (.int .i64 0) (.int .i64 0) (.slice a3 n3 c3)) (by omega))
                have k0 := HK12.out.2.1.cell 0 _ rfl; have k1 := HK12.out.2.1.cell 1 _ rfl; have k2 := HK12.out.2.1.cell 2 _ rfl; have kf := HK12.out.2.1.frozen
                clear HK12 HQ12 HO12 HL12
                go_upto_region 57 with fail
                clear k0 k1 k2 kf
                generalize ((w12.setCell ⟨p, 0, none⟩ (.int .i64 (0))).setCell ⟨p, 1, none⟩ (.int .i64 (0))).setCell ⟨p, 2, none⟩ (.slice a3 n3 c3) = W13 at *
                have k0 := HKZ.out.2.1.cell 0 _ rfl; have k1 := HKZ.out.2.1.cell 1 _ rfl; have k2 := HKZ.out.2.1.cell 2 _ rfl; have kf := HKZ.out.2.1.frozen
                have j0 := HQZ.out.cell 0 _ rfl; have j1 := HQZ.out.cell 1 _ rfl; have j2 := HQZ.out.cell 2 _ rfl
                have HKB := hide (HKZ.out.put (u' := u) (x' := x) HOR.out HNE.out HLN.out)
                clear HKZ HOR HQZ
                go_wp2_with fail
                exact ⟨⟨i + 1, _, _, _, _, _, _, _, _, _, by go_num, by omega, HOK, HP, HKB⟩, by simp [intOf]; omega⟩
              · have HF := hide hf
                clear hf
                have j0 := HQ9.out.cell 0 _ rfl; have j1 := HQ9.out.cell 1 _ rfl; have j2 := HQ9.out.cell 2 _ rfl
                obtain ⟨har, hnc⟩ := HK9.out.arr
                have CC := hide ((specSplit_yes (1 + r) HOK.out HSD.out (by have h := HF.out; omega)) a n c W9 HLN.out har hnc (by omega) trivial)
                clear har hnc
                go_wp2_with fail
                refine CC.out.mono ?_
                rintro e w10 ⟨v, rfl, ho, hb⟩
                obtain ⟨a2, n2, c2, rfl, ho2, hl2⟩ := own_form ho
                have HK10 := hide (HK9.out.next hb); have HQ10 := hide (HQ9.out.next hb)
                have HO10 := hide ho2; have HL10 := hide hl2
                clear CC ho ho2 hl2 HK9 HQ9
                clear j0 j1 j2 hb
                have hal : Below w10.heap.size w10 (w10.alloc (.cells #[.int .i64 (u), .int .i64 (x), .slice a2 n2 c2] 29)) := (Below.refl _ _).alloc (Nat.le_refl _) _
                have HK11 := hide (HK10.out.next hal); have HQ11 := hide (HQ10.out.next hal)
                have hq10 := HK10.out.2.1.lt; have hq11 := HK11.out.2.1.lt; have hg11 := HK11.out.1.lt
                clear hal HK10 HQ10 HO10 HL10
                have j0 := HQ11.out.cell 0 _ rfl; have j1 := HQ11.out.cell 1 _ rfl; have j2 := HQ11.out.cell 2 _ rfl
                obtain ⟨har, hnc⟩ := HK11.out.arr
                have CC := hide ((implSplit_yes (1 + r) HOK.out HSD.out (by have h := HF.out; omega)) a n c (w10.alloc (.cells #[.int .i64 (u), .int .i64 (x), .slice a2 n2 c2] 29)) HLN.out har hnc (by omega) trivial)
                clear har hnc
                go_wp2_with fail
                refine CC.out.mono ?_
                rintro e w12 ⟨v, rfl, ho, hb⟩
                obtain ⟨a3, n3, c3, rfl, ho2, hl2⟩ := own_form ho
                have HK12 := hide (HK11.out.next hb); have HQ12 := hide (HQ11.out.next hb)
                have HO12 := hide ho2; have HL12 := hide hl2
                clear CC ho ho2 hl2 hb HK11 HQ11
                clear j0 j1 j2
                have HP2 := hide (HP.out.split (k := 1 + r)); have HOK2 := hide (bOK_split HOK.out HSD.out.1 (by have h := HF.out; omega))
                have HKN := hide (HK12.out.put (u' := u) (x' := x) HO12.out (own_new HO12.out (by omega) (by omega)) HL12.out)
                have HQN := hide (HQ12.out.grown (grown3 w12 p (.int .i64 u) (.int .i64 (x)) (.slice a3 n3 c3)) (by omega))
                have k0 := HK12.out.2.1.cell 0 _ rfl; have k1 := HK12.out.2.1.cell 1 _ rfl; have k2 := HK12.out.2.1.cell 2 _ rfl; have kf := HK12.out.2.1.frozen
                clear HK12 HQ12 HO12 HL12
                go_upto_region 58 with fail
                clear k0 k1 k2 kf
                generalize ((w12.setCell ⟨p, 0, none⟩ (.int .i64 (u))).setCell ⟨p, 1, none⟩ (.int .i64 (x))).setCell ⟨p, 2, none⟩ (.slice a3 n3 c3) = W13 at *
                obtain ⟨-, -, -, p2, l2, s2, psum2, _, ux2, x12⟩ := HP2.out
                obtain ⟨har, hnc⟩ := HKN.out.arr
                have HL9 := hide HKN.out.2.2.2.2.2.2
                have C1 := hide (parts_call (c := c3) HOK2.out HP2.out HL9.out har)
                clear har hnc
                have k0 := HKN.out.2.1.cell 0 _ rfl; have k1 := HKN.out.2.1.cell 1 _ rfl; have k2 := HKN.out.2.1.cell 2 _ rfl; have kf := HKN.out.2.1.frozen
                go_wp2_with fail
                refine C1.out.mono ?_
                rintro e wA ⟨rfl, hb⟩
                have HKA := hide (HKN.out.next hb); have HQA := hide (HQN.out.next hb)
                clear C1 HKN HQN hb k0 k1 k2 kf
                obtain ⟨har, hnc⟩ := HKA.out.arr
                have C2 := hide (pipe_call HOK2.out HP2.out HL9.out har hnc)
                clear har hnc
                have k0 := HKA.out.2.1.cell 0 _ rfl; have k1 := HKA.out.2.1.cell 1 _ rfl; have k2 := HKA.out.2.1.cell 2 _ rfl; have kf := HKA.out.2.1.frozen
                have j0 := HQA.out.cell 0 _ rfl; have j1 := HQA.out.cell 1 _ rfl; have j2 := HQA.out.cell 2 _ rfl
                go_wp2_with fail
                refine C2.out.mono ?_
                rintro e wB ⟨rfl, hb⟩
                have HKB := hide (HKA.out.next hb); have HQB := hide (HQA.out.next hb)
                clear C2 HKA HQA hb k0 k1 k2 kf j0 j1 j2
                have k0 := HKB.out.2.1.cell 0 _ rfl; have k1 := HKB.out.2.1.cell 1 _ rfl; have k2 := HKB.out.2.1.cell 2 _ rfl; have kf := HKB.out.2.1.frozen
                have j0 := HQB.out.cell 0 _ rfl; have j1 := HQB.out.cell 1 _ rfl; have j2 := HQB.out.cell 2 _ rfl
                go_wp2_with fail
                exact ⟨⟨i + 1, _, _, _, _, _, _, _, _, _, by go_num, by omega, HOK2, HP2, HKB⟩, by simp [intOf]; omega⟩
        · skip
          obtain rfl : i = 20 := by omega
          obtain ⟨har, hnc⟩ := HK.out.arr
          have HLN := hide HK.out.2.2.2.2.2.2
          have hn4 : n ≤ 4096 := by rw [← HLN.out]; exact HOK.out.2.2.1
          have CC := hide ((implAck_yes x [] HOK.out ⟨ux, Int.le_refl _⟩ (by simp)) a n c none 0 0 W5 HLN.out har hnc (by omega) rfl (arrI_nil _ _) (Nat.le_refl _) (by omega) trivial)
          rw [ack_all HOK.out []] at CC
          obtain ⟨G, hG⟩ : ∃ G, G = ackG x x [] os := ⟨_, rfl⟩
          obtain ⟨SM, hSM⟩ : ∃ SM, SM = ackS x os := ⟨_, rfl⟩
          rw [← hG, ← hSM] at CC
          clear har hnc hG hSM
          go_wp2_with fail
          refine CC.out.mono ?_
          rintro e w6 ⟨v, rfl, ho, hb⟩
          obtain ⟨a2, n2, c2, rfl, ho2, hl2⟩ := own_form ho
          obtain rfl : n2 = 0 := hl2.symm
          have hu6 := hb.size
          have hpl5 := HK.out.2.1.lt
          have HK6 := hide (HK.out.next hb)
          clear CC hl2 ho hb HK k0 k1 k2 kf
          obtain ⟨hb2, hx2, hx3⟩ := two_boxes w6 #[.int .i64 x, .int .i64 x, .slice a2 0 c2] #[.int .i64 (x - u), .int .i64 G, .int .i64 SM] 29 39
          have HK7 := hide (HK6.out.next hb2); have HO7 := hide (owns_nx ho2 hb2); have HX := hide hx2; have HX2 := hide hx3
          clear hb2 hx2 hx3 ho2 HK6
          go_upto_region 62 with fail
          generalize ((w6.alloc (.cells #[.int .i64 x, .int .i64 x, .slice a2 0 c2] 29)).alloc (.cells #[.int .i64 (x - u), .int .i64 G, .int .i64 SM] 39)) = W7 at *
          obtain ⟨a4, c4, e4, har, hnc, _⟩ := arrP_own HO7.out
          injection e4 with e4 e5 e6
          subst e4 e6
          clear e5
          have HPE : Hid (PrM x x 0 0 0 []) := hide (PrM.of (bOK_zero x (by omega) x1))
          have C2 := hide (pipe_call (n := 0) (c := c2) (bOK_zero x (by omega) x1) HPE.out rfl har hnc)
          clear har hnc
          have k0 := HK7.out.2.1.cell 0 _ rfl; have k1 := HK7.out.2.1.cell 1 _ rfl; have k2 := HK7.out.2.1.cell 2 _ rfl; have kf := HK7.out.2.1.frozen
          have z0 := HX.out.cell 0 _ rfl; have z1 := HX.out.cell 1 _ rfl; have z2 := HX.out.cell 2 _ rfl; have y0 := HX2.out.cell 0 _ rfl
          go_wp2_with fail
          refine C2.out.mono ?_
          rintro e w8 ⟨rfl, hb8⟩
          have HK8 := hide (HK7.out.next hb8)
          clear C2 hb8 k0 k1 k2 kf z0 z1 z2 y0 HK7 HX HX2
          go_wp2_with fail
          go_ret
          exact ⟨rfl, HK8.out.1.1⟩
    · have C1 := hide (fun W hb => (specPipe_no hok) a n c W HK3.out.2.2.2.2.2.2 (har.below (show Below W3.heap.size W3 W from hb) (Nat.le_refl _)) hnc hl2 trivial)
      have C2 := hide (fun W hb => (implPipe_no hok) a n c W HK3.out.2.2.2.2.2.2 (har.below (show Below W3.heap.size W3 W from hb) (Nat.le_refl _)) hnc hl2 trivial)
      clear har
      go_wp2_with fail
      refine (C1.out W3 (Below.refl _ _)).mono ?_
      rintro e w4 ⟨rfl, hb4⟩
      have C3 := hide (C2.out w4 hb4)
      have HK4 := hide (HK3.out.next hb4)
      clear C1 C2 HK3 hb4 k0 k1 k2 kf
      have k0 := HK4.out.2.1.cell 0 _ rfl; have k1 := HK4.out.2.1.cell 1 _ rfl; have k2 := HK4.out.2.1.cell 2 _ rfl; have kf := HK4.out.2.1.frozen
      go_wp2_with fail
      refine C3.out.mono ?_
      rintro e w5 ⟨rfl, hb5⟩
      have HK5 := hide (HK4.out.next hb5)
      clear C3 HK4 hb5 k0 k1 k2 kf
      go_wp2_with fail
      go_ret
      exact ⟨rfl, HK5.out.1.1⟩

open Go.ChangeMaps (open_string shut_string)
theorem own : ownKnob Try.prog.godebug = none := by kernel_rfl
theorem laidOut : laidOutB Try.prog = true := by kernel_rfl

set_option maxRecDepth 100000 in
theorem fnBooks_lifted (os : Os) (started : os.Started) (H : Type) (enc : TypeId × Value → H) :
    ReturnsInHanded {} Try.checked os 3 .any (Rows.fnBooksSpec.pre6 enc Try.prog Try.f3 Rows.fnBooksRow.domain false) (Rows.fnBooksSpec.post enc Try.prog Try.f3 false true false false) := by
  refine returnsInHanded_of_change (C := Try.checked) own started (by kernel_rfl) Try.func3
    (ChangeSpec.witness6 (enc := enc) (C := Try.checked) false ⟨#[], #[.slice none 0 0], []⟩ 8 (by kernel_rfl) (by kernel_rfl) (by kernel_rfl) (by kernel_rfl)) ?_
  intro W base args ds gs before hval0 hW hcnd _
  have hval : ∀ (j : Nat) t v, Try.f3.params[j]? = some t → args[j]? = some v → Value.okWide Try.prog W .any base t v := hval0
  have hW' := hW
  obtain ⟨p, q, hA0, hV, rfl, hfz, hnd⟩ := hW
  have hA : DataW.TrodAll enc Try.prog W 0 (fun _ => true) true Try.f3.params.toList args.toList ds p := hA0
  rw [Try.params3] at hA hval
  obtain ⟨v0, vs0, d0, ds0, p0, q0, hargs, rfl, rfl, h0, r0⟩ := trodAll_cons hA
  obtain ⟨rfl, rfl, rfl⟩ := trodAll_nil r0
  obtain rfl : args = #[v0] := by cases args; simp_all
  obtain ⟨rfl, rfl⟩ := trodVars_none hV
  obtain ⟨a0, len0, cap0, rfl⟩ := okWide_slice Try.underlying22 (hval 0 22 v0 rfl rfl)
  have k0 := h0
  have lt0 : ∀ x ∈ p0, x.block < W.heap.size := by obtain ⟨m, hm⟩ := k0; exact DataW.trod_lt m _ _ _ hm
  obtain ⟨z0, w0⟩ : ∃ zs, IsRow .u8 W a0 len0 cap0 zs := by
    obtain ⟨fuel, hf⟩ := h0
    rcases open_ints Try.underlying22 Try.underlying5 (by kernel_rfl) hf with ⟨hcs, _⟩ | ⟨x, l, c, zs, hcs, _, hl, hm, hz, _, hcell, hwz⟩
    · simp [Value.cells] at hcs
      obtain ⟨rfl, rfl, rfl⟩ := hcs
      exact ⟨[], .inl ⟨rfl, rfl, rfl, rfl⟩⟩
    · simp [Value.cells] at hcs
      obtain ⟨rfl, rfl, rfl⟩ := hcs
      exact ⟨zs, .inr ⟨_, rfl, hl, hm, by simpa using hz, hcell, hwz⟩⟩
  clear hA0 hval0
  refine (walkFnBooks a0 len0 cap0 z0 W w0).mono fun e W' ⟨he, bel⟩ => ?_
  subst he
  exact ⟨_, rfl, _, _, _, [], _, [], hW', trodAll_mk1 (shut_bool Try.underlying4 _), (trodAll_cons_mk (Below.trod laidOut (by kernel_rfl) (of_decide_eq_true (by kernel_rfl)) k0 bel lt0) trodAll_mk0), rfl, bel.frame _, fun h => by cases h⟩

theorem fnBooks_over : Rows.fnBooksRow.holds Try.pinned (OpenSpec.ofChange Rows.fnBooksSpec) :=
  OpenClaim.holds_of_wide 3 Try.f3 rfl rfl rfl rfl rfl rfl rfl ⟨rfl, rfl, rfl, rfl, rfl⟩ rfl rfl rfl rfl rfl (by kernel_rfl) Try.func3 (by kernel_rfl)
    (of_decide_eq_true (by kernel_rfl)) (by unfold Func.isWrapper; first | (rw [if_pos (by decide +kernel)]; kernel_rfl) | (rw [if_neg (by decide +kernel)]; exact ⟨rfl, rfl⟩))
    (fun os started H enc _ => fnBooks_lifted os started H enc)

theorem fnBooks_holds : Rows.FnBooksSaid := fnBooks_over
end Go.Proofs.Ytlkbmdkidpfioaa
