/-
At every input the law FnWindow of the landed program answers true, and its arguments read afterwards as before.
No conditions.
-/
import Derived.Test.YtnnijikfppijfabRows
import Derived.WalkKit
import Derived.ProofKit
import Derived.OpenShut
import Derived.Test.YtnnijikfppijfabLww
import Derived.RegionTactic
import Derived.Test.YtnnijikfppijfabRows
import Derived.ShutString
import Derived.ChangeOld
import Derived.Below
namespace Go.Proofs.Ytnnijikfppijfab
open Go.ChangeShapes Go.WideShapes Go.ChangeAt Go.RowKit
set_option linter.unusedVariables false
set_option maxRecDepth 100000
/-- The window in its box beside the source: what it may have grown to. -/
def WiM (w W : World) (g len : Nat) (a : Option Addr) (cap r : Nat) (m base acked : Int) : Prop := ∃ c t n : Int, LwB w W g len a cap r #[.int .i64 m, .int .i64 c, .int .i64 t, .int .i64 n] 32 ∧ cgB m c t n = true ∧ c + n ≤ base + acked
theorem eqCongV (a b c d : Int) (w : World) : (Op.equalIn 10000 32 (.agg #[.int .i64 a, .int .i64 b, .int .i64 c, .int .i64 d]) (.agg #[.int .i64 a, .int .i64 b, .int .i64 c, .int .i64 d])).run Try.prog w = .ok true w := by
  have u3 := Try.underlying2
  have a3 := Try.isAgg2
  have z3 := Try.sizeOf2
  have hS : Try.prog.underlying 32 = some (.struct (Try.prog.fieldsOf 32)) := by kernel_rfl
  rw [show (10000 : Nat) = 9999 + 1 from rfl, run_equalIn_agg w 9999 32 _ _ hS (by kernel_rfl)]
  simp only [Program.fieldsOf, Try.underlying32]
  go_simp
theorem cgB_fresh {m : Int} (h0 : 1 ≤ m) (h1 : m ≤ 65535) : cgB m (fiB m) 1073741824 0 = true := by
  have := fiB_bd h0 h1
  exact cgB_iff.2 (by omega)
theorem loss_c {m c t n a : Int} (h : cgB m c t n = true) (a0 : 0 ≤ a) (a1 : a ≤ 1073741824) : ExCCong 18 #[.agg #[.int .i64 m, .int .i64 c, .int .i64 t, .int .i64 n], .int .i64 a] m (max (a / 2) (2 * m)) (max (a / 2) (2 * m)) 0 0 := by
  obtain ⟨⟨m0, m1⟩, _⟩ := cgB_iff.1 h
  exact face_CongLoss m c t n a _ _ _ _ _ (by rw [inB_iff.2 ⟨a0, a1⟩]; exact after_lost m c t n a _ _ _ _ h (lost_walk m c t n a m0 m1 a0 a1))
theorem tmo_c {m c t n a : Int} (h : cgB m c t n = true) (a0 : 0 ≤ a) (a1 : a ≤ 1073741824) : ExCCong 20 #[.agg #[.int .i64 m, .int .i64 c, .int .i64 t, .int .i64 n], .int .i64 a] m m (max (a / 2) (2 * m)) 0 0 := by
  obtain ⟨⟨m0, m1⟩, _⟩ := cgB_iff.1 h
  exact face_CongTimeout m c t n a _ _ _ _ _ (by rw [inB_iff.2 ⟨a0, a1⟩]; exact after_timedOut m c t n a _ _ _ _ h (timed_walk m c t n a m0 m1 a0 a1))
theorem idle_c {m c t n : Int} (h : cgB m c t n = true) : ExCCong 22 #[.agg #[.int .i64 m, .int .i64 c, .int .i64 t, .int .i64 n]] m (min c (fiB m)) t 0 0 := by
  obtain ⟨⟨m0, m1⟩, _⟩ := cgB_iff.1 h
  exact face_CongIdle m c t n _ _ _ _ _ (after_idled m c t n 0 _ _ _ _ h (idled_walk m c t n 0 m0 m1))
theorem ack_c {m c t n a : Int} (h : cgB m c t n = true) (hc : c ≤ 1000000) (a0 : 1 ≤ a) (a1 : a ≤ 1073741824) : ∃ c' n' : Int, ExCCong 15 #[.agg #[.int .i64 m, .int .i64 c, .int .i64 t, .int .i64 n], .int .i64 a] m c' t n' 0 ∧ cgB m c' t n' = true ∧ c ≤ c' ∧ c' ≤ c + m ∧ c' + n' ≤ c + n + a ∧ (c < t → c' ≤ c + a) := by
  obtain ⟨⟨m0, m1⟩, ⟨c0, c1⟩, ⟨t0, t1⟩, ⟨n0, n1⟩⟩ := cgB_iff.1 h
  have hi := inB_iff.2 ⟨a0, a1⟩
  by_cases hf : c < t
  · exact ⟨_, _, face_CongAck m c t n a _ _ _ _ _ (by rw [hi]; exact after_acked m c t n a _ _ _ _ h (acked_fast m c t n a m0 m1 c0 c1 t0 t1 n0 n1 a0 a1 hf)), cgB_iff.2 (by omega), by omega, by omega, by omega, by omega⟩
  · by_cases hg : c ≤ n + a
    · exact ⟨_, _, face_CongAck m c t n a _ _ _ _ _ (by rw [hi]; exact after_acked m c t n a _ _ _ _ h (acked_slow m c t n a m0 m1 c0 c1 t0 t1 n0 n1 a0 a1 hf hg)), cgB_iff.2 (by omega), by omega, by omega, by omega, by omega⟩
    · exact ⟨_, _, face_CongAck m c t n a _ _ _ _ _ (by rw [hi]; exact after_acked m c t n a _ _ _ _ h (acked_wait m c t n a m0 m1 c0 c1 t0 t1 n0 n1 a0 a1 hf hg)), cgB_iff.2 (by omega), by omega, by omega, by omega, by omega⟩
set_option maxHeartbeats 100000000 in
theorem walkFnWindow (a0 : Option Addr) (len0 cap0 : Nat) (z0 : List Int) (w : World) (w0 : IsRow .u8 w a0 len0 cap0 z0) :
    Calls Try.prog 8 #[.slice a0 len0 cap0] w fun e w' => e = .returned (.bool true) ∧ Below w.heap.size w w' := by
  obtain ⟨ys, hn, ha⟩ := w0.arr
  have HN := hide hn
  have HA := hide ha
  clear hn ha w0
  by_cases hbig : 1048576 < len0
  · go_enter Try.func8, Try.ntmps8
    go_wp2
    go_ret
    exact ⟨rfl, Below.refl _ _⟩
  · have HY : Hid (ys.length ≤ 2097152) := hide (by rw [HN.out]; omega)
    go_enter Try.func8, Try.ntmps8
    go_wp2_with fail
    refine (lwBegin_walk _ _ _ _ ys _ HN.out HA.out (by omega) (by omega) (by omega)).mono ?_
    rintro e w1 ⟨st, rfl, hs0, hs1, hb1⟩
    have HS1 := hide (LwS.start (n := ys.length) (a := a0) (cap := cap0) hb1 hs0 hs1)
    rw [HN.out] at HS1
    clear hb1
    go_wp2_with fail
    generalize w1.alloc (.cells #[.slice a0 len0 cap0, .int .i64 0, .int .u64 st] 43) = W1 at *
    generalize w1.heap.size = g at *
    clear hs0 hs1
    refine (HS1.out.draw HN.out HA.out HY.out 3000 (by omega) (by omega)).mono ?_
    rintro e w2 ⟨x2, rfl, p2, q2, hg2, hs2⟩
    have HS2 := hide (HS1.out.step hg2 hs2)
    clear HS1 hg2 hs2
    go_wp2_with fail
    generalize hm : 1 + x2 = m at *
    have m0 : 1 ≤ m := by omega
    have m1 : m ≤ 3000 := by omega
    clear hm p2 q2
    have CI := hide (fun W => implNew_ok m (inB_iff.2 ⟨m0, by omega⟩) W)
    have CS := hide (fun W => specNew_ok m (inB_iff.2 ⟨m0, by omega⟩) W)
    obtain ⟨f0, f1⟩ := fiB_bd m0 (by omega)
    have f2 : fiB m ≤ 12000 := by unfold fiB; omega
    refine (CI.out _).mono ?_
    rintro e w3 ⟨rfl, hb3⟩
    have HB3 := hide (LwB.start (HS2.out.next hb3) #[.int .i64 m, .int .i64 (fiB m), .int .i64 1073741824, .int .i64 0] 32)
    clear HS2 hb3
    go_wp2_with fail
    generalize w3.alloc (.cells #[.int .i64 m, .int .i64 (fiB m), .int .i64 1073741824, .int .i64 0] 32) = W3 at *
    generalize w3.heap.size = r at *
    refine (CS.out _).mono ?_
    rintro e w4 ⟨rfl, hb4⟩
    have HB4 := hide (HB3.out.next hb4)
    have hal := (Below.refl w4.heap.size w4).alloc (Nat.le_refl _) (.cells #[.int .i64 m, .int .i64 (fiB m), .int .i64 1073741824, .int .i64 0] 32)
    have HB5 := hide (HB4.out.next hal)
    have HX5 : Hid (HoldV (w4.alloc (.cells #[.int .i64 m, .int .i64 (fiB m), .int .i64 1073741824, .int .i64 0] 32)) w4.heap.size #[.int .i64 m, .int .i64 (fiB m), .int .i64 1073741824, .int .i64 0] 32) := hide (heap_alloc_new _ _)
    clear HB3 hb4 HB4 hal
    have k0 := HB5.out.2.1.cell 0 _ rfl; have k1 := HB5.out.2.1.cell 1 _ rfl; have k2 := HB5.out.2.1.cell 2 _ rfl; have k3 := HB5.out.2.1.cell 3 _ rfl; have y0 := HX5.out.cell 0 _ rfl; have y1 := HX5.out.cell 1 _ rfl; have y2 := HX5.out.cell 2 _ rfl; have y3 := HX5.out.cell 3 _ rfl
    go_upto_region 7 with fail
    clear k0 k1 k2 k3 y0 y1 y2 y3
    generalize w4.alloc (.cells #[.int .i64 m, .int .i64 (fiB m), .int .i64 1073741824, .int .i64 0] 32) = W5 at *
    generalize w4.heap.size = X at *
    have k0 := HB5.out.2.1.cell 0 _ rfl; have k1 := HB5.out.2.1.cell 1 _ rfl; have k2 := HB5.out.2.1.cell 2 _ rfl; have k3 := HB5.out.2.1.cell 3 _ rfl; have y0 := HX5.out.cell 0 _ rfl; have y1 := HX5.out.cell 1 _ rfl; have y2 := HX5.out.cell 2 _ rfl; have y3 := HX5.out.cell 3 _ rfl
    have heq := eqCongV m (fiB m) 1073741824 0 W5
    go_wp2_with fail
    refine (HB5.out.1.draw HN.out HA.out HY.out 40 (by omega) (by omega)).mono ?_
    rintro e w6 ⟨x6, rfl, p6, q6, hg6, hs6⟩
    have HM6 : Hid (WiM w w6 g len0 a0 cap0 r m (fiB m) 0) := hide ⟨fiB m, 1073741824, 0, HB5.out.step hg6 hs6, cgB_fresh m0 (by omega), by omega⟩
    clear HB5 HX5 hg6 hs6 k0 k1 k2 k3 y0 y1 y2 y3 heq CI CS
    go_wp2_with fail
    go_loopw [10, 11, 12] (fun s10 s11 s12 w2 => ∃ i acked base : Int, s10 = .int .i64 acked ∧ s11 = .int .i64 base ∧ s12 = .int .i64 i ∧ 0 ≤ i ∧ i ≤ 40 ∧ 0 ≤ acked ∧ acked ≤ (40 - i) * 6000 ∧ m ≤ base ∧ base ≤ 60000 ∧ Hid (WiM w w2 g len0 a0 cap0 r m base acked)) (fun _ _ t _ => (intOf t).toNat)
    case atStart => exact ⟨1 + x6, 0, fiB m, rfl, rfl, by go_num, by omega, by omega, by omega, by omega, by omega, by omega, HM6⟩
    case round =>
      obtain ⟨i, acked, base, rfl, rfl, rfl, i0, i1, k0, k1, b0, b1, HM⟩ := hrel
      clear HM6 p6 q6
      obtain ⟨c, t, n, hMB, hv, hcn⟩ := HM.out
      have HB7 := hide hMB
      have HV := hide hv
      obtain ⟨_, ⟨c0, c1⟩, ⟨t0, t1⟩, ⟨n0, n1⟩⟩ := cgB_iff.1 hv
      clear HM hMB hv
      rename World => W7
      by_cases hi : 0 < i
      · have e0 := HB7.out.2.1.cell 0 _ rfl; have e1 := HB7.out.2.1.cell 1 _ rfl; have e2 := HB7.out.2.1.cell 2 _ rfl; have e3 := HB7.out.2.1.cell 3 _ rfl
        have hal := (Below.refl W7.heap.size W7).alloc (Nat.le_refl _) (.cells #[.int .i64 m, .int .i64 c, .int .i64 t, .int .i64 n] 32)
        have HB8 := hide (HB7.out.next hal)
        have HX8 : Hid (HoldV (W7.alloc (.cells #[.int .i64 m, .int .i64 c, .int .i64 t, .int .i64 n] 32)) W7.heap.size #[.int .i64 m, .int .i64 c, .int .i64 t, .int .i64 n] 32) := hide (heap_alloc_new _ _)
        have hgX : g ≠ W7.heap.size := Nat.ne_of_lt HB7.out.1.lt
        have hrX : r ≠ W7.heap.size := Nat.ne_of_lt HB7.out.2.1.lt
        clear hal HB7
        go_wp2_with fail
        clear e0 e1 e2 e3
        generalize W7.alloc (.cells #[.int .i64 m, .int .i64 c, .int .i64 t, .int .i64 n] 32) = W8 at *
        generalize W7.heap.size = X at *
        refine (HB8.out.1.draw HN.out HA.out HY.out 100000 (by omega) (by omega)).mono ?_
        rintro e W9 ⟨fl, rfl, p9, q9, hg9, hs9⟩
        have HB9 := hide (HB8.out.step hg9 hs9)
        have HX9 := hide (HX8.out.grown hg9 hgX)
        clear HB8 HX8 hg9 hs9
        obtain ⟨H, hH⟩ : ∃ x, x = max (fl / 2) (2 * m) := ⟨_, rfl⟩
        have CL := hide (loss_c (a := fl) HV.out p9 (by omega))
        have CT := hide (tmo_c (a := fl) HV.out p9 (by omega))
        rw [← hH] at CL CT
        have CD := hide (idle_c HV.out)
        have h2 : 2 * m ≤ H := by omega
        have h3 : H ≤ 60000 := by omega
        by_cases hh : fl / 2 < 2 * m
        · obtain rfl : H = 2 * m := by omega
          clear hH
          go_wp2_with fail
          refine (HB9.out.1.draw HN.out HA.out HY.out (2 * m) (by omega) (by omega)).mono ?_
          rintro e W10 ⟨x10, rfl, p10, q10, hg10, hs10⟩
          have HB10 := hide (HB9.out.step hg10 hs10)
          have HX10 := hide (HX9.out.grown hg10 hgX)
          clear HB9 HX9 hg10 hs10
          go_wp2_with fail
          refine (HB10.out.1.draw HN.out HA.out HY.out 8 (by omega) (by omega)).mono ?_
          rintro e W11 ⟨x11, rfl, p11, q11, hg11, hs11⟩
          have HB11 := hide (HB10.out.step hg11 hs11)
          have HX11 := hide (HX10.out.grown hg11 hgX)
          clear HB10 HX10 hg11 hs11
          have e0 := HB11.out.2.1.cell 0 _ rfl; have e1 := HB11.out.2.1.cell 1 _ rfl; have e2 := HB11.out.2.1.cell 2 _ rfl; have e3 := HB11.out.2.1.cell 3 _ rfl
          by_cases d0 : x11 = 0
          · subst d0
            go_wp2_with fail
            refine (CL.out _).mono ?_
            rintro e w12 ⟨rfl, hb12⟩
            have HB12 := hide (HB11.out.next hb12)
            have HX12 := hide (HX11.out.next hb12)
            clear HB11 HX11 hb12 e0 e1 e2 e3
            have e0 := HB12.out.2.1.cell 0 _ rfl; have e1 := HB12.out.2.1.cell 1 _ rfl; have e2 := HB12.out.2.1.cell 2 _ rfl; have e3 := HB12.out.2.1.cell 3 _ rfl
            have kf := HB12.out.2.1.frozen
            have y1 := HX12.out.cell 1 _ rfl; have y2 := HX12.out.cell 2 _ rfl
            go_wp2_with fail
            exact ⟨⟨i - 1, 0, 2 * m, rfl, rfl, by go_num, by omega, by omega, by omega, by omega, by omega, by omega, hide ⟨2 * m, 2 * m, 0, HB12.out.four (.int .i64 m) (.int .i64 (2 * m)) (.int .i64 (2 * m)) (.int .i64 0), cgB_iff.2 (by omega), by omega⟩⟩, by simp [intOf]; omega⟩
          · by_cases d1 : x11 = 1
            · subst d1
              go_wp2_with fail
              refine (CT.out _).mono ?_
              rintro e w12 ⟨rfl, hb12⟩
              have HB12 := hide (HB11.out.next hb12)
              have HX12 := hide (HX11.out.next hb12)
              clear HB11 HX11 hb12 e0 e1 e2 e3
              have e0 := HB12.out.2.1.cell 0 _ rfl; have e1 := HB12.out.2.1.cell 1 _ rfl; have e2 := HB12.out.2.1.cell 2 _ rfl; have e3 := HB12.out.2.1.cell 3 _ rfl
              have kf := HB12.out.2.1.frozen
              have y1 := HX12.out.cell 1 _ rfl; have y2 := HX12.out.cell 2 _ rfl
              go_wp2_with fail
              exact ⟨⟨i - 1, 0, m, rfl, rfl, by go_num, by omega, by omega, by omega, by omega, by omega, by omega, hide ⟨m, 2 * m, 0, HB12.out.four (.int .i64 m) (.int .i64 m) (.int .i64 (2 * m)) (.int .i64 0), cgB_iff.2 (by omega), by omega⟩⟩, by simp [intOf]; omega⟩
            · by_cases d2 : x11 = 2
              · subst d2
                obtain ⟨F, hF⟩ : ∃ x, x = min c (fiB m) := ⟨_, rfl⟩
                rw [← hF] at CD
                have F0 : m ≤ F := by omega
                have F1 : F ≤ c := by omega
                have F2 : F ≤ fiB m := by omega
                clear hF
                go_wp2_with fail
                refine (CD.out _).mono ?_
                rintro e w12 ⟨rfl, hb12⟩
                have HB12 := hide (HB11.out.next hb12)
                have HX12 := hide (HX11.out.next hb12)
                clear HB11 HX11 hb12 e0 e1 e2 e3
                have e0 := HB12.out.2.1.cell 0 _ rfl; have e1 := HB12.out.2.1.cell 1 _ rfl; have e2 := HB12.out.2.1.cell 2 _ rfl; have e3 := HB12.out.2.1.cell 3 _ rfl
                have kf := HB12.out.2.1.frozen
                have y1 := HX12.out.cell 1 _ rfl; have y2 := HX12.out.cell 2 _ rfl
                go_wp2_with fail
                exact ⟨⟨i - 1, 0, F, rfl, rfl, by go_num, by omega, by omega, by omega, by omega, by omega, by omega, hide ⟨F, t, 0, HB12.out.four (.int .i64 m) (.int .i64 F) (.int .i64 t) (.int .i64 0), cgB_iff.2 (by omega), by omega⟩⟩, by simp [intOf]; omega⟩
              · obtain ⟨c', n', CA, hv', u0, u1, u2, u3⟩ := ack_c (a := 1 + x10) HV.out (by omega) (by omega) (by omega)
                have CAH := hide CA
                have HV' := hide hv'
                obtain ⟨_, ⟨v0, v1⟩, _, ⟨z0, z1⟩⟩ := cgB_iff.1 hv'
                clear CA hv'
                by_cases hct : c < t
                · have u4 := u3 hct
                  clear u3
                  go_wp2_with fail
                  refine (CAH.out _).mono ?_
                  rintro e w12 ⟨rfl, hb12⟩
                  have HB12 := hide (HB11.out.next hb12)
                  have HX12 := hide (HX11.out.next hb12)
                  clear HB11 HX11 hb12 e0 e1 e2 e3
                  have e0 := HB12.out.2.1.cell 0 _ rfl; have e1 := HB12.out.2.1.cell 1 _ rfl; have e2 := HB12.out.2.1.cell 2 _ rfl; have e3 := HB12.out.2.1.cell 3 _ rfl
                  have kf := HB12.out.2.1.frozen
                  have y1 := HX12.out.cell 1 _ rfl; have y2 := HX12.out.cell 2 _ rfl
                  go_wp2_with fail
                  exact ⟨⟨i - 1, acked + (1 + x10), base, rfl, rfl, by go_num, by omega, by omega, by omega, by omega, by omega, by omega, hide ⟨c', t, n', HB12.out.four (.int .i64 m) (.int .i64 c') (.int .i64 t) (.int .i64 n'), HV'.out, by omega⟩⟩, by simp [intOf]; omega⟩
                · clear u3
                  go_wp2_with fail
                  refine (CAH.out _).mono ?_
                  rintro e w12 ⟨rfl, hb12⟩
                  have HB12 := hide (HB11.out.next hb12)
                  have HX12 := hide (HX11.out.next hb12)
                  clear HB11 HX11 hb12 e0 e1 e2 e3
                  have e0 := HB12.out.2.1.cell 0 _ rfl; have e1 := HB12.out.2.1.cell 1 _ rfl; have e2 := HB12.out.2.1.cell 2 _ rfl; have e3 := HB12.out.2.1.cell 3 _ rfl
                  have kf := HB12.out.2.1.frozen
                  have y1 := HX12.out.cell 1 _ rfl; have y2 := HX12.out.cell 2 _ rfl
                  go_wp2_with fail
                  exact ⟨⟨i - 1, acked + (1 + x10), base, rfl, rfl, by go_num, by omega, by omega, by omega, by omega, by omega, by omega, hide ⟨c', t, n', HB12.out.four (.int .i64 m) (.int .i64 c') (.int .i64 t) (.int .i64 n'), HV'.out, by omega⟩⟩, by simp [intOf]; omega⟩
        · obtain rfl : H = fl / 2 := by omega
          clear hH
          go_wp2_with fail
          refine (HB9.out.1.draw HN.out HA.out HY.out (2 * m) (by omega) (by omega)).mono ?_
          rintro e W10 ⟨x10, rfl, p10, q10, hg10, hs10⟩
          have HB10 := hide (HB9.out.step hg10 hs10)
          have HX10 := hide (HX9.out.grown hg10 hgX)
          clear HB9 HX9 hg10 hs10
          go_wp2_with fail
          refine (HB10.out.1.draw HN.out HA.out HY.out 8 (by omega) (by omega)).mono ?_
          rintro e W11 ⟨x11, rfl, p11, q11, hg11, hs11⟩
          have HB11 := hide (HB10.out.step hg11 hs11)
          have HX11 := hide (HX10.out.grown hg11 hgX)
          clear HB10 HX10 hg11 hs11
          have e0 := HB11.out.2.1.cell 0 _ rfl; have e1 := HB11.out.2.1.cell 1 _ rfl; have e2 := HB11.out.2.1.cell 2 _ rfl; have e3 := HB11.out.2.1.cell 3 _ rfl
          by_cases d0 : x11 = 0
          · subst d0
            go_wp2_with fail
            refine (CL.out _).mono ?_
            rintro e w12 ⟨rfl, hb12⟩
            have HB12 := hide (HB11.out.next hb12)
            have HX12 := hide (HX11.out.next hb12)
            clear HB11 HX11 hb12 e0 e1 e2 e3
            have e0 := HB12.out.2.1.cell 0 _ rfl; have e1 := HB12.out.2.1.cell 1 _ rfl; have e2 := HB12.out.2.1.cell 2 _ rfl; have e3 := HB12.out.2.1.cell 3 _ rfl
            have kf := HB12.out.2.1.frozen
            have y1 := HX12.out.cell 1 _ rfl; have y2 := HX12.out.cell 2 _ rfl
            go_wp2_with fail
            exact ⟨⟨i - 1, 0, fl / 2, rfl, rfl, by go_num, by omega, by omega, by omega, by omega, by omega, by omega, hide ⟨fl / 2, fl / 2, 0, HB12.out.four (.int .i64 m) (.int .i64 (fl / 2)) (.int .i64 (fl / 2)) (.int .i64 0), cgB_iff.2 (by omega), by omega⟩⟩, by simp [intOf]; omega⟩
          · by_cases d1 : x11 = 1
            · subst d1
              go_wp2_with fail
              refine (CT.out _).mono ?_
              rintro e w12 ⟨rfl, hb12⟩
              have HB12 := hide (HB11.out.next hb12)
              have HX12 := hide (HX11.out.next hb12)
              clear HB11 HX11 hb12 e0 e1 e2 e3
              have e0 := HB12.out.2.1.cell 0 _ rfl; have e1 := HB12.out.2.1.cell 1 _ rfl; have e2 := HB12.out.2.1.cell 2 _ rfl; have e3 := HB12.out.2.1.cell 3 _ rfl
              have kf := HB12.out.2.1.frozen
              have y1 := HX12.out.cell 1 _ rfl; have y2 := HX12.out.cell 2 _ rfl
              go_wp2_with fail
              exact ⟨⟨i - 1, 0, m, rfl, rfl, by go_num, by omega, by omega, by omega, by omega, by omega, by omega, hide ⟨m, fl / 2, 0, HB12.out.four (.int .i64 m) (.int .i64 m) (.int .i64 (fl / 2)) (.int .i64 0), cgB_iff.2 (by omega), by omega⟩⟩, by simp [intOf]; omega⟩
            · by_cases d2 : x11 = 2
              · subst d2
                obtain ⟨F, hF⟩ : ∃ x, x = min c (fiB m) := ⟨_, rfl⟩
                rw [← hF] at CD
                have F0 : m ≤ F := by omega
                have F1 : F ≤ c := by omega
                have F2 : F ≤ fiB m := by omega
                clear hF
                go_wp2_with fail
                refine (CD.out _).mono ?_
                rintro e w12 ⟨rfl, hb12⟩
                have HB12 := hide (HB11.out.next hb12)
                have HX12 := hide (HX11.out.next hb12)
                clear HB11 HX11 hb12 e0 e1 e2 e3
                have e0 := HB12.out.2.1.cell 0 _ rfl; have e1 := HB12.out.2.1.cell 1 _ rfl; have e2 := HB12.out.2.1.cell 2 _ rfl; have e3 := HB12.out.2.1.cell 3 _ rfl
                have kf := HB12.out.2.1.frozen
                have y1 := HX12.out.cell 1 _ rfl; have y2 := HX12.out.cell 2 _ rfl
                go_wp2_with fail
                exact ⟨⟨i - 1, 0, F, rfl, rfl, by go_num, by omega, by omega, by omega, by omega, by omega, by omega, hide ⟨F, t, 0, HB12.out.four (.int .i64 m) (.int .i64 F) (.int .i64 t) (.int .i64 0), cgB_iff.2 (by omega), by omega⟩⟩, by simp [intOf]; omega⟩
              · obtain ⟨c', n', CA, hv', u0, u1, u2, u3⟩ := ack_c (a := 1 + x10) HV.out (by omega) (by omega) (by omega)
                have CAH := hide CA
                have HV' := hide hv'
                obtain ⟨_, ⟨v0, v1⟩, _, ⟨z0, z1⟩⟩ := cgB_iff.1 hv'
                clear CA hv'
                by_cases hct : c < t
                · have u4 := u3 hct
                  clear u3
                  go_wp2_with fail
                  refine (CAH.out _).mono ?_
                  rintro e w12 ⟨rfl, hb12⟩
                  have HB12 := hide (HB11.out.next hb12)
                  have HX12 := hide (HX11.out.next hb12)
                  clear HB11 HX11 hb12 e0 e1 e2 e3
                  have e0 := HB12.out.2.1.cell 0 _ rfl; have e1 := HB12.out.2.1.cell 1 _ rfl; have e2 := HB12.out.2.1.cell 2 _ rfl; have e3 := HB12.out.2.1.cell 3 _ rfl
                  have kf := HB12.out.2.1.frozen
                  have y1 := HX12.out.cell 1 _ rfl; have y2 := HX12.out.cell 2 _ rfl
                  go_wp2_with fail
                  exact ⟨⟨i - 1, acked + (1 + x10), base, rfl, rfl, by go_num, by omega, by omega, by omega, by omega, by omega, by omega, hide ⟨c', t, n', HB12.out.four (.int .i64 m) (.int .i64 c') (.int .i64 t) (.int .i64 n'), HV'.out, by omega⟩⟩, by simp [intOf]; omega⟩
                · clear u3
                  go_wp2_with fail
                  refine (CAH.out _).mono ?_
                  rintro e w12 ⟨rfl, hb12⟩
                  have HB12 := hide (HB11.out.next hb12)
                  have HX12 := hide (HX11.out.next hb12)
                  clear HB11 HX11 hb12 e0 e1 e2 e3
                  have e0 := HB12.out.2.1.cell 0 _ rfl; have e1 := HB12.out.2.1.cell 1 _ rfl; have e2 := HB12.out.2.1.cell 2 _ rfl; have e3 := HB12.out.2.1.cell 3 _ rfl
                  have kf := HB12.out.2.1.frozen
                  have y1 := HX12.out.cell 1 _ rfl; have y2 := HX12.out.cell 2 _ rfl
                  go_wp2_with fail
                  exact ⟨⟨i - 1, acked + (1 + x10), base, rfl, rfl, by go_num, by omega, by omega, by omega, by omega, by omega, by omega, hide ⟨c', t, n', HB12.out.four (.int .i64 m) (.int .i64 c') (.int .i64 t) (.int .i64 n'), HV'.out, by omega⟩⟩, by simp [intOf]; omega⟩
      · go_wp2_with fail
        go_ret
        exact ⟨rfl, HB7.out.1.1⟩

open Go.ChangeMaps (open_string shut_string)
theorem own : ownKnob Try.prog.godebug = none := by kernel_rfl
theorem laidOut : laidOutB Try.prog = true := by kernel_rfl

set_option maxRecDepth 100000 in
theorem fnWindow_lifted (os : Os) (started : os.Started) (H : Type) (enc : TypeId × Value → H) :
    ReturnsInHanded {} Try.checked os 8 .any (Rows.fnWindowSpec.pre6 enc Try.prog Try.f8 Rows.fnWindowRow.domain false) (Rows.fnWindowSpec.post enc Try.prog Try.f8 false true false false) := by
  refine returnsInHanded_of_change (C := Try.checked) own started (by kernel_rfl) Try.func8
    (ChangeSpec.witness6 (enc := enc) (C := Try.checked) false ⟨#[], #[.slice none 0 0], []⟩ 8 (by kernel_rfl) (by kernel_rfl) (by kernel_rfl) (by kernel_rfl)) ?_
  intro W base args ds gs before hval0 hW hcnd _
  have hval : ∀ (j : Nat) t v, Try.f8.params[j]? = some t → args[j]? = some v → Value.okWide Try.prog W .any base t v := hval0
  have hW' := hW
  obtain ⟨p, q, hA0, hV, rfl, hfz, hnd⟩ := hW
  have hA : DataW.TrodAll enc Try.prog W 0 (fun _ => true) true Try.f8.params.toList args.toList ds p := hA0
  rw [Try.params8] at hA hval
  obtain ⟨v0, vs0, d0, ds0, p0, q0, hargs, rfl, rfl, h0, r0⟩ := trodAll_cons hA
  obtain ⟨rfl, rfl, rfl⟩ := trodAll_nil r0
  obtain rfl : args = #[v0] := by cases args; simp_all
  obtain ⟨rfl, rfl⟩ := trodVars_none hV
  obtain ⟨a0, len0, cap0, rfl⟩ := okWide_slice Try.underlying40 (hval 0 40 v0 rfl rfl)
  have k0 := h0
  have lt0 : ∀ x ∈ p0, x.block < W.heap.size := by obtain ⟨m, hm⟩ := k0; exact DataW.trod_lt m _ _ _ hm
  obtain ⟨z0, w0⟩ : ∃ zs, IsRow .u8 W a0 len0 cap0 zs := by
    obtain ⟨fuel, hf⟩ := h0
    rcases open_ints Try.underlying40 Try.underlying5 (by kernel_rfl) hf with ⟨hcs, _⟩ | ⟨x, l, c, zs, hcs, _, hl, hm, hz, _, hcell, hwz⟩
    · simp [Value.cells] at hcs
      obtain ⟨rfl, rfl, rfl⟩ := hcs
      exact ⟨[], .inl ⟨rfl, rfl, rfl, rfl⟩⟩
    · simp [Value.cells] at hcs
      obtain ⟨rfl, rfl, rfl⟩ := hcs
      exact ⟨zs, .inr ⟨_, rfl, hl, hm, by simpa using hz, hcell, hwz⟩⟩
  clear hA0 hval0
  refine (walkFnWindow a0 len0 cap0 z0 W w0).mono fun e W' ⟨he, bel⟩ => ?_
  subst he
  exact ⟨_, rfl, _, _, _, [], _, [], hW', trodAll_mk1 (shut_bool Try.underlying4 _), (trodAll_cons_mk (Below.trod laidOut (by kernel_rfl) (of_decide_eq_true (by kernel_rfl)) k0 bel lt0) trodAll_mk0), rfl, bel.frame _, fun h => by cases h⟩

theorem fnWindow_over : Rows.fnWindowRow.holds Try.pinned (OpenSpec.ofChange Rows.fnWindowSpec) :=
  OpenClaim.holds_of_wide 8 Try.f8 rfl rfl rfl rfl rfl rfl rfl ⟨rfl, rfl, rfl, rfl, rfl⟩ rfl rfl rfl rfl rfl (by kernel_rfl) Try.func8 (by kernel_rfl)
    (of_decide_eq_true (by kernel_rfl)) (by unfold Func.isWrapper; first | (rw [if_pos (by decide +kernel)]; kernel_rfl) | (rw [if_neg (by decide +kernel)]; exact ⟨rfl, rfl⟩))
    (fun os started H enc _ => fnWindow_lifted os started H enc)

theorem fnWindow_holds : Rows.FnWindowSaid := fnWindow_over
end Go.Proofs.Ytnnijikfppijfab
