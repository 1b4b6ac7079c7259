/-
Contracts of functions of this seat.
-/
import Derived.Test.YtmlpninkilcjaaaRows
import Derived.WalkKit
import Derived.ProofKit
import Derived.OpenShut
import Derived.Test.YtmlpninkilcjaaaRok
import Derived.Test.YtmlpninkilcjaaaTrt
namespace Go.Proofs.Ytmlpninkilcjaaa
open Go.ChangeShapes Go.WideShapes Go.ChangeAt Go.RowKit
set_option linter.unusedVariables false
set_option maxRecDepth 100000
theorem hold_set {w : World} {H T : Nat} {vs : Array Value} (h : HoldV w H vs T) (i : Nat) (y : Value) : HoldV (w.setCell ⟨H, i, none⟩ y) H (vs.setIfInBounds i y) T := heap_setCell_same w H i _ _ y h
theorem oI_ex {o : Option Nat} : o = none ∨ ∃ j, o = some j := by cases o with
  | none => exact .inl rfl
  | some j => exact .inr ⟨j, rfl⟩
/-- The best route so far. -/
abbrev bestV (zs : List Int) (o : Option Nat) : Array Value := #[.int .i64 (oI o (rA zs)), .int .i64 (oI o (rB zs)), .int .i64 (oI o (rV zs)), .int .i64 (oI o (rL zs)), .int .i64 (oI o (rM zs))]
abbrev zeroR : Array Value := #[.int .i64 0, .int .i64 0, .int .i64 0, .int .i64 0, .int .i64 0]
set_option maxHeartbeats 16000000 in
theorem specFind_walk (a : Option Addr) (n cap : Nat) (zs : List Int) (dst : Int) (w : World) (hn : zs.length = n * 5) (ha : ArrI w a zs) (hm : n ≤ 1048576) :
    Calls Try.prog 7 #[.slice a n cap, .int .i64 dst] w fun e w' => e = .returned (.tuple #[.agg #[.int .i64 (oI (rtBest zs dst n) (rA zs)), .int .i64 (oI (rtBest zs dst n) (rB zs)), .int .i64 (oI (rtBest zs dst n) (rV zs)), .int .i64 (oI (rtBest zs dst n) (rL zs)), .int .i64 (oI (rtBest zs dst n) (rM zs))], .bool (rtBest zs dst n).isSome]) ∧ Below w.heap.size w w' := by
  have HA := hide ha
  have HN := hide hn
  have HB0 := hide (BoxV.start w zeroR 27)
  clear ha hn
  go_enter Try.func7, Try.ntmps7
  go_wp2_with fail
  go_loopw [6] (fun t w2 => ∃ b : Int, t = .int .i64 b ∧ -1 ≤ b ∧ b ≤ 32 ∧ Hid (∀ c, b < c → rtIn zs dst c n = none) ∧ Hid (BoxV w w2 zeroR 27)) (fun t _ => (intOf t + 1).toNat)
  case atStart => exact ⟨32, rfl, by omega, by omega, hide (fun c hc => rtIn_big zs dst c hc n), HB0⟩
  case round =>
    obtain ⟨b, rfl, hb0, hb1, HNO, HB⟩ := hrel
    by_cases hge : 0 ≤ b
    · have HB1 := hide (HB.out.next ((Below.refl _ _).alloc (Nat.le_refl _) (.cells zeroR 27)))
      have HX1 : Hid (HoldV (wr.alloc (.cells zeroR 27)) wr.heap.size (bestV zs none) 27) := hide (heap_alloc_new _ _)
      have hX : w.heap.size < wr.heap.size := HB.out.2.1
      go_wp2_with fail
      generalize hV : wr.alloc (.cells zeroR 27) = V0 at *
      clear hV
      generalize wr.heap.size = X at *
      go_loopw [8, 9] (fun f t w2 => ∃ k : Nat, k ≤ n ∧ t = .int .i64 k ∧ f = .bool (rtIn zs dst b k).isSome ∧ Hid (BoxV w w2 zeroR 27) ∧ Hid (HoldV w2 X (bestV zs (rtIn zs dst b k)) 27)) (fun _ t _ => n - (intOf t).toNat)
      case atStart => exact ⟨0, Nat.zero_le _, rfl, rfl, HB1, HX1⟩
      case round =>
        rename World => wk
        obtain ⟨k, hk, rfl, rfl, HBk, HXk⟩ := hrel
        by_cases hlt : k < n
        · obtain ⟨bb, off, ea, hbs, _⟩ := HA.out (k * 5) (by rw [HN.out]; omega)
          subst ea
          have c0 : wk.cell? ⟨bb, off + k * 5, none⟩ = some (.int .i64 (rA zs k)) := by
            obtain ⟨b', o', e, _, c⟩ := HA.out (k * 5) (by rw [HN.out]; omega)
            cases e
            rw [HBk.out.1.cell (p := ⟨bb, off + k * 5, none⟩) hbs]; exact c
          have c1 : wk.cell? ⟨bb, off + (k * 5 + 1), none⟩ = some (.int .i64 (rB zs k)) := by
            obtain ⟨b', o', e, _, c⟩ := HA.out ((k * 5 + 1)) (by rw [HN.out]; omega)
            cases e
            rw [HBk.out.1.cell (p := ⟨bb, off + (k * 5 + 1), none⟩) hbs]; exact c
          rw [← Nat.add_assoc] at c1
          have c2 : wk.cell? ⟨bb, off + (k * 5 + 2), none⟩ = some (.int .i64 (rV zs k)) := by
            obtain ⟨b', o', e, _, c⟩ := HA.out ((k * 5 + 2)) (by rw [HN.out]; omega)
            cases e
            rw [HBk.out.1.cell (p := ⟨bb, off + (k * 5 + 2), none⟩) hbs]; exact c
          rw [← Nat.add_assoc] at c2
          have c3 : wk.cell? ⟨bb, off + (k * 5 + 3), none⟩ = some (.int .i64 (rL zs k)) := by
            obtain ⟨b', o', e, _, c⟩ := HA.out ((k * 5 + 3)) (by rw [HN.out]; omega)
            cases e
            rw [HBk.out.1.cell (p := ⟨bb, off + (k * 5 + 3), none⟩) hbs]; exact c
          rw [← Nat.add_assoc] at c3
          have c4 : wk.cell? ⟨bb, off + (k * 5 + 4), none⟩ = some (.int .i64 (rM zs k)) := by
            obtain ⟨b', o', e, _, c⟩ := HA.out ((k * 5 + 4)) (by rw [HN.out]; omega)
            cases e
            rw [HBk.out.1.cell (p := ⟨bb, off + (k * 5 + 4), none⟩) hbs]; exact c
          rw [← Nat.add_assoc] at c4
          have hal := (Below.refl wk.heap.size wk).alloc (Nat.le_refl _) (.cells #[.int .i64 (rA zs k), .int .i64 (rB zs k), .int .i64 (rV zs k), .int .i64 (rL zs k), .int .i64 (rM zs k)] 27)
          have HB2 := hide (HBk.out.next hal)
          have HX2 := hide (HXk.out.next hal)
          have HR2 : Hid (HoldV (wk.alloc (.cells #[.int .i64 (rA zs k), .int .i64 (rB zs k), .int .i64 (rV zs k), .int .i64 (rL zs k), .int .i64 (rM zs k)] 27)) wk.heap.size #[.int .i64 (rA zs k), .int .i64 (rB zs k), .int .i64 (rV zs k), .int .i64 (rL zs k), .int .i64 (rM zs k)] 27) := hide (heap_alloc_new _ _)
          clear hal HBk HXk
          go_wp2_with fail
          generalize hV2 : wk.alloc (.cells #[.int .i64 (rA zs k), .int .i64 (rB zs k), .int .i64 (rV zs k), .int .i64 (rL zs k), .int .i64 (rM zs k)] 27) = V2 at *
          clear hV2 c0 c1 c2 c3 c4
          generalize wk.heap.size = Y at *
          refine (specROK_walk _ _ _ _ _ V2).mono ?_
          rintro e V3 ⟨rfl, hb3⟩
          have HB3 := hide (HB2.out.next hb3)
          have HX3 := hide (HX2.out.next hb3)
          have HR3 := hide (HR2.out.next hb3)
          clear hb3 HB2 HX2 HR2
          have r0 := HR3.out.cell 0 _ rfl
          have r1 := HR3.out.cell 1 _ rfl
          cases hok : rtOK (rA zs k) (rB zs k) (rV zs k) (rL zs k) (rM zs k) with
          | false =>
            have HC : Hid (rtC zs dst k = false) := hide (by unfold rtC; rw [hok]; rfl)
            have HSK : Hid (rtIn zs dst b (k + 1) = rtIn zs dst b k) := hide (rtIn_skip zs dst b k (by rintro ⟨h, _⟩; rw [HC.out] at h; cases h))
            go_wp2_with fail
            exact ⟨⟨k + 1, by omega, by go_num, by rw [HSK.out], HB3, hide (by rw [HSK.out]; exact HX3.out)⟩, by simp [intOf]; omega⟩
          | true =>
            by_cases hbit : rB zs k = b
            · have hbb : (rB zs k == b) = true := beq_iff_eq.2 hbit
              have HBIT := hide hbit
              clear hbit
              go_wp2_with fail
              refine (specHas_walk _ _ _ V3).mono ?_
              rintro e V4 ⟨rfl, hb4⟩
              have HB4 := hide (HB3.out.next hb4)
              have HX4 := hide (HX3.out.next hb4)
              have HR4 := hide (HR3.out.next hb4)
              clear hb4 HB3 HX3 HR3 r0 r1
              cases hhas : hasB (rA zs k) (rB zs k) dst with
              | false =>
                have HC : Hid (rtC zs dst k = false) := hide (by unfold rtC; rw [hok, hhas]; rfl)
                have HSK : Hid (rtIn zs dst b (k + 1) = rtIn zs dst b k) := hide (rtIn_skip zs dst b k (by rintro ⟨h, _⟩; rw [HC.out] at h; cases h))
                go_wp2_with fail
                exact ⟨⟨k + 1, by omega, by go_num, by rw [HSK.out], HB4, hide (by rw [HSK.out]; exact HX4.out)⟩, by simp [intOf]; omega⟩
              | true =>
                have HC : Hid (rtC zs dst k = true) := hide (by unfold rtC; rw [hok, hhas]; rfl)
                have q0 := HR4.out.cell 0 _ rfl
                have q1 := HR4.out.cell 1 _ rfl
                have q2 := HR4.out.cell 2 _ rfl
                have q3 := HR4.out.cell 3 _ rfl
                have q4 := HR4.out.cell 4 _ rfl
                cases ho : rtIn zs dst b k with
                | none =>
                  have x0 : V4.cell? ⟨X, 0, none⟩ = some (.int .i64 0) := by have h := HX4.out.cell 0 _ rfl; rw [ho] at h; exact h
                  have x1 : V4.cell? ⟨X, 1, none⟩ = some (.int .i64 0) := by have h := HX4.out.cell 1 _ rfl; rw [ho] at h; exact h
                  have x2 : V4.cell? ⟨X, 2, none⟩ = some (.int .i64 0) := by have h := HX4.out.cell 2 _ rfl; rw [ho] at h; exact h
                  have x3 : V4.cell? ⟨X, 3, none⟩ = some (.int .i64 0) := by have h := HX4.out.cell 3 _ rfl; rw [ho] at h; exact h
                  have x4 : V4.cell? ⟨X, 4, none⟩ = some (.int .i64 0) := by have h := HX4.out.cell 4 _ rfl; rw [ho] at h; exact h
                  have HTK : Hid (rtIn zs dst b (k + 1) = some k) := hide (rtIn_take zs dst b k HC.out HBIT.out (by rw [ho]; intro j h; cases h))
                  have xz := HX4.out.frozen
                  go_wp2_with fail
                  exact ⟨⟨k + 1, by omega, by go_num, by rw [HTK.out]; rfl, hide (HB4.out.keep ((((((Below.refl (w.heap.size + 1) _).setCell (p := ⟨X, 0, none⟩) (by show w.heap.size + 1 ≤ X; omega) _).setCell (p := ⟨X, 1, none⟩) (by show w.heap.size + 1 ≤ X; omega) _).setCell (p := ⟨X, 2, none⟩) (by show w.heap.size + 1 ≤ X; omega) _).setCell (p := ⟨X, 3, none⟩) (by show w.heap.size + 1 ≤ X; omega) _).setCell (p := ⟨X, 4, none⟩) (by show w.heap.size + 1 ≤ X; omega) _) (Nat.lt_succ_self _)), hide (by rw [HTK.out]; exact (hold_set (hold_set (hold_set (hold_set (hold_set HX4.out 0 (.int .i64 (rA zs k))) 1 (.int .i64 (rB zs k))) 2 (.int .i64 (rV zs k))) 3 (.int .i64 (rL zs k))) 4 (.int .i64 (rM zs k))))⟩, by simp [intOf]; omega⟩
                | some j =>
                  have x0 : V4.cell? ⟨X, 0, none⟩ = some (.int .i64 (rA zs j)) := by have h := HX4.out.cell 0 _ rfl; rw [ho] at h; exact h
                  have x1 : V4.cell? ⟨X, 1, none⟩ = some (.int .i64 (rB zs j)) := by have h := HX4.out.cell 1 _ rfl; rw [ho] at h; exact h
                  have x2 : V4.cell? ⟨X, 2, none⟩ = some (.int .i64 (rV zs j)) := by have h := HX4.out.cell 2 _ rfl; rw [ho] at h; exact h
                  have x3 : V4.cell? ⟨X, 3, none⟩ = some (.int .i64 (rL zs j)) := by have h := HX4.out.cell 3 _ rfl; rw [ho] at h; exact h
                  have x4 : V4.cell? ⟨X, 4, none⟩ = some (.int .i64 (rM zs j)) := by have h := HX4.out.cell 4 _ rfl; rw [ho] at h; exact h
                  by_cases hme : rM zs k < rM zs j
                  · have HME := hide hme
                    have HTK : Hid (rtIn zs dst b (k + 1) = some k) := hide (rtIn_take zs dst b k HC.out HBIT.out (by rw [ho]; intro i h; cases h; exact HME.out))
                    have xz := HX4.out.frozen
                    go_wp2_with fail
                    exact ⟨⟨k + 1, by omega, by go_num, by rw [HTK.out]; rfl, hide (HB4.out.keep ((((((Below.refl (w.heap.size + 1) _).setCell (p := ⟨X, 0, none⟩) (by show w.heap.size + 1 ≤ X; omega) _).setCell (p := ⟨X, 1, none⟩) (by show w.heap.size + 1 ≤ X; omega) _).setCell (p := ⟨X, 2, none⟩) (by show w.heap.size + 1 ≤ X; omega) _).setCell (p := ⟨X, 3, none⟩) (by show w.heap.size + 1 ≤ X; omega) _).setCell (p := ⟨X, 4, none⟩) (by show w.heap.size + 1 ≤ X; omega) _) (Nat.lt_succ_self _)), hide (by rw [HTK.out]; exact (hold_set (hold_set (hold_set (hold_set (hold_set HX4.out 0 (.int .i64 (rA zs k))) 1 (.int .i64 (rB zs k))) 2 (.int .i64 (rV zs k))) 3 (.int .i64 (rL zs k))) 4 (.int .i64 (rM zs k))))⟩, by simp [intOf]; omega⟩
                  · have HME := hide hme
                    have HSK : Hid (rtIn zs dst b (k + 1) = rtIn zs dst b k) := hide (rtIn_skip zs dst b k (by rintro ⟨_, _, h⟩; exact absurd (h j ho) (by have := HME.out; omega)))
                    go_wp2_with fail
                    exact ⟨⟨k + 1, by omega, by go_num, by rw [HSK.out, ho]; rfl, HB4, hide (by rw [HSK.out]; exact HX4.out)⟩, by simp [intOf]; omega⟩
            · have hbb : (rB zs k == b) = false := beq_eq_false_iff_ne.2 hbit
              have HBIT := hide hbit
              clear hbit
              have HSK : Hid (rtIn zs dst b (k + 1) = rtIn zs dst b k) := hide (rtIn_skip zs dst b k (by rintro ⟨_, h, _⟩; exact HBIT.out h))
              go_wp2_with fail
              exact ⟨⟨k + 1, by omega, by go_num, by rw [HSK.out], HB3, hide (by rw [HSK.out]; exact HX3.out)⟩, by simp [intOf]; omega⟩
        · have hkn : k = n := by omega
          subst hkn
          cases ho : rtIn zs dst b k with
          | none =>
            have HNO2 : Hid (∀ c, b - 1 < c → rtIn zs dst c k = none) := hide (fun c hc => by
              by_cases e : c = b
              · rw [e]; exact ho
              · exact HNO.out c (by omega))
            go_wp2_with fail
            exact ⟨⟨b - 1, by go_num, by omega, by omega, HNO2, HBk⟩, by simp [intOf]; omega⟩
          | some j =>
            have HBEST : Hid (rtBest zs dst k = some j) := hide (rt_hit zs dst b k j HNO.out ho)
            have x0 : wk.cell? ⟨X, 0, none⟩ = some (.int .i64 (rA zs j)) := by have h := HXk.out.cell 0 _ rfl; rw [ho] at h; exact h
            have x1 : wk.cell? ⟨X, 1, none⟩ = some (.int .i64 (rB zs j)) := by have h := HXk.out.cell 1 _ rfl; rw [ho] at h; exact h
            have x2 : wk.cell? ⟨X, 2, none⟩ = some (.int .i64 (rV zs j)) := by have h := HXk.out.cell 2 _ rfl; rw [ho] at h; exact h
            have x3 : wk.cell? ⟨X, 3, none⟩ = some (.int .i64 (rL zs j)) := by have h := HXk.out.cell 3 _ rfl; rw [ho] at h; exact h
            have x4 : wk.cell? ⟨X, 4, none⟩ = some (.int .i64 (rM zs j)) := by have h := HXk.out.cell 4 _ rfl; rw [ho] at h; exact h
            have d0 := HBk.out.cell 0 _ rfl
            have d1 := HBk.out.cell 1 _ rfl
            have d2 := HBk.out.cell 2 _ rfl
            have d3 := HBk.out.cell 3 _ rfl
            have d4 := HBk.out.cell 4 _ rfl
            have dz := HoldV.frozen (show HoldV wk w.heap.size _ _ from HBk.out.2.2)
            go_wp2_with fail
            rw [HBEST.out]
            exact bodyPost_ret (v := .tuple #[.agg #[.int .i64 (rA zs j), .int .i64 (rB zs j), .int .i64 (rV zs j), .int .i64 (rL zs j), .int .i64 (rM zs j)], .bool true]) (by simp [results, Try.results7, go_sem, d0, d1, d2, d3, d4]) rfl ⟨rfl, ((((HBk.out.1.setCell (p := ⟨w.heap.size, 0, none⟩) (Nat.le_refl _) _).setCell (p := ⟨w.heap.size, 1, none⟩) (Nat.le_refl _) _).setCell (p := ⟨w.heap.size, 2, none⟩) (Nat.le_refl _) _).setCell (p := ⟨w.heap.size, 3, none⟩) (Nat.le_refl _) _).setCell (p := ⟨w.heap.size, 4, none⟩) (Nat.le_refl _) _⟩
    · have hbe : b = -1 := by omega
      subst hbe
      have HBEST : Hid (rtBest zs dst n = none) := hide (rt_end zs dst n HNO.out)
      have d0 := HB.out.cell 0 _ rfl
      have d1 := HB.out.cell 1 _ rfl
      have d2 := HB.out.cell 2 _ rfl
      have d3 := HB.out.cell 3 _ rfl
      have d4 := HB.out.cell 4 _ rfl
      have dz := HoldV.frozen (show HoldV wr w.heap.size _ _ from HB.out.2.2)
      go_wp2_with fail
      rw [HBEST.out]
      exact bodyPost_ret (v := .tuple #[.agg #[.int .i64 0, .int .i64 0, .int .i64 0, .int .i64 0, .int .i64 0], .bool false]) (by simp [results, Try.results7, go_sem, d0, d1, d2, d3, d4]) rfl ⟨rfl, ((((HB.out.1.setCell (p := ⟨w.heap.size, 0, none⟩) (Nat.le_refl _) _).setCell (p := ⟨w.heap.size, 1, none⟩) (Nat.le_refl _) _).setCell (p := ⟨w.heap.size, 2, none⟩) (Nat.le_refl _) _).setCell (p := ⟨w.heap.size, 3, none⟩) (Nat.le_refl _) _).setCell (p := ⟨w.heap.size, 4, none⟩) (Nat.le_refl _) _⟩
end Go.Proofs.Ytmlpninkilcjaaa
