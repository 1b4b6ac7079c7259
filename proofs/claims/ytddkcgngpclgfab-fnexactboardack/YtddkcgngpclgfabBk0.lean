/-
Contracts of functions of this seat.
-/
import Derived.Test.YtddkcgngpclgfabRows
import Derived.WalkKit
import Derived.ProofKit
import Derived.OpenShut
import Derived.Test.YtddkcgngpclgfabBl11
import Derived.Test.YtddkcgngpclgfabBss
namespace Go.Proofs.Ytddkcgngpclgfab
open Go.ChangeShapes Go.WideShapes Go.ChangeAt Go.RowKit
set_option linter.unusedVariables false
set_option maxRecDepth 100000
/-- One of the stretches counts for a piece: it lies within what is out, and the piece within it. -/
def wiB (ack x p0 p1 : Int) : List Int → Bool
  | s0 :: s1 :: r => decide (ack ≤ s0 ∧ s0 < s1 ∧ s1 ≤ x ∧ s0 ≤ p0 ∧ p1 ≤ s1) || wiB ack x p0 p1 r
  | _ => false
theorem drop_two {zs : List Int} {i : Nat} (h : i * 2 + 2 ≤ zs.length) : zs.drop (i * 2) = zs.getD (i * 2) 0 :: zs.getD (i * 2 + 1) 0 :: zs.drop ((i + 1) * 2) := by
  rw [List.drop_eq_getElem_cons (by omega : i * 2 < zs.length), List.drop_eq_getElem_cons (by omega : i * 2 + 1 < zs.length)]
  congr 1
  · rw [List.getD_eq_getElem?_getD, List.getElem?_eq_getElem (by omega)]; rfl
  · congr 1
    · rw [List.getD_eq_getElem?_getD, List.getElem?_eq_getElem (by omega)]; rfl
    · congr 1; omega
theorem l14Max_walk (a b : Int) (w : World) : Calls Try.prog 34 #[.int .i64 a, .int .i64 b] w fun e w' => e = .returned (.int .i64 (max a b)) ∧ w' = w := by
  by_cases h : a > b
  · have e : max a b = a := by omega
    rw [e]
    go_enter Try.func34, Try.ntmps34
    go_wp2
    go_ret
    exact ⟨rfl, rfl⟩
  · have e : max a b = b := by omega
    rw [e]
    go_enter Try.func34, Try.ntmps34
    go_wp2
    go_ret
    exact ⟨rfl, rfl⟩
set_option maxHeartbeats 8000000 in
theorem l15Within_walk (p0 p1 p2 p3 : Int) (p4 p5 : Bool) (ack x : Int) (av : Option Addr) (nv cv : Nat) (a : Option Addr) (n c : Nat) (zs : List Int) (w : World) (hn : zs.length = n * 2) (ha : ArrI w a zs) (hm : n ≤ 1048576) :
    Calls Try.prog 35 #[.agg #[.int .i64 p0, .int .i64 p1, .int .i64 p2, .int .i64 p3, .bool p4, .bool p5], .agg #[.int .i64 ack, .int .i64 x, .slice av nv cv], .slice a n c] w fun e w' => e = .returned (.bool (wiB ack x p0 p1 zs)) ∧ Below w.heap.size w w' := by
  obtain ⟨hb2, hP, hB⟩ := two_boxes w #[.int .i64 p0, .int .i64 p1, .int .i64 p2, .int .i64 p3, .bool p4, .bool p5] #[.int .i64 ack, .int .i64 x, .slice av nv cv] 30 28
  have HB2 := hide hb2; have HP := hide hP; have HQ := hide hB
  have HN := hide hn; have HA := hide ha
  clear hn ha hb2 hP hB
  go_enter Try.func35, Try.ntmps35
  go_wp2_with fail
  generalize (w.alloc (.cells #[.int .i64 p0, .int .i64 p1, .int .i64 p2, .int .i64 p3, .bool p4, .bool p5] 30)).alloc (.cells #[.int .i64 ack, .int .i64 x, .slice av nv cv] 28) = V0 at *
  go_loopw [7] (fun t w2 => ∃ i : Nat, i ≤ n ∧ t = .int .i64 i ∧ Hid (wiB ack x p0 p1 zs = wiB ack x p0 p1 (zs.drop (i * 2))) ∧ Hid (HoldV w2 w.heap.size #[.int .i64 p0, .int .i64 p1, .int .i64 p2, .int .i64 p3, .bool p4, .bool p5] 30) ∧ Hid (HoldV w2 (w.heap.size + 1) #[.int .i64 ack, .int .i64 x, .slice av nv cv] 28) ∧ Hid (Below w.heap.size w w2)) (fun t _ => n - (intOf t).toNat)
  case atStart => exact ⟨0, Nat.zero_le _, rfl, hide (by rw [Nat.zero_mul]; rfl), HP, HQ, HB2⟩
  case round =>
    rename World => wr
    obtain ⟨i, hi, rfl, HC, HP, HQ, HB⟩ := hrel
    by_cases hlt : i < n
    · have hlt2 : i * 2 + 2 ≤ n * 2 := by omega
      have HA2 : Hid (ArrI wr a zs) := hide (HA.out.below HB.out (Nat.le_refl _))
      obtain ⟨b, off, rfl, hb1, g0⟩ := HA2.out (i * 2) (by rw [HN.out]; omega)
      have g1 : wr.cell? ⟨b, off + (i * 2 + 1), none⟩ = some (.int .i64 (zs.getD (i * 2 + 1) 0)) := by
        obtain ⟨b', o', e, _, c⟩ := HA2.out (i * 2 + 1) (by rw [HN.out]; omega)
        cases e
        exact c
      rw [← Nat.add_assoc] at g1
      have HD : Hid (wiB ack x p0 p1 zs = wiB ack x p0 p1 (zs.getD (i * 2) 0 :: zs.getD (i * 2 + 1) 0 :: zs.drop ((i + 1) * 2))) := hide (by rw [HC.out, drop_two (by rw [HN.out]; exact hlt2)])
      clear HC HA2
      generalize zs.getD (i * 2) 0 = s0 at *
      generalize zs.getD (i * 2 + 1) 0 = s1 at *
      have HNO : Hid (¬ (ack ≤ s0 ∧ s0 < s1 ∧ s1 ≤ x ∧ s0 ≤ p0 ∧ p1 ≤ s1) → wiB ack x p0 p1 zs = wiB ack x p0 p1 (zs.drop ((i + 1) * 2))) := hide (fun h => by rw [HD.out]; unfold wiB; rw [decide_eq_false h, Bool.false_or]; conv => lhs; unfold wiB)
      have HYES : Hid ((ack ≤ s0 ∧ s0 < s1 ∧ s1 ≤ x ∧ s0 ≤ p0 ∧ p1 ≤ s1) → true = wiB ack x p0 p1 zs) := hide (fun h => by rw [HD.out]; unfold wiB; rw [decide_eq_true h, Bool.true_or])
      have hal := (Below.refl wr.heap.size wr).alloc (Nat.le_refl _) (.cells #[.int .i64 s0, .int .i64 s1] 70)
      have HP2 := hide (HP.out.next hal); have HQ2 := hide (HQ.out.next hal); have HB2' := hide (HB.out.trans (hal.mono HB.out.size))
      have HS := hide (hv_new wr #[.int .i64 s0, .int .i64 s1] 70)
      have k0 := HS.out.cell 0 _ rfl; have k1 := HS.out.cell 1 _ rfl
      have q0 := HP2.out.cell 0 _ rfl; have q1 := HP2.out.cell 1 _ rfl
      have b0 := HQ2.out.cell 0 _ rfl; have b1 := HQ2.out.cell 1 _ rfl
      clear hal HD HP HQ HB
      by_cases h1 : ack ≤ s0
      · by_cases h2 : s0 < s1
        · by_cases h3 : s1 ≤ x
          · by_cases h4 : s0 ≤ p0
            · by_cases h5 : p1 ≤ s1
              · have HE := hide (HYES.out ⟨h1, h2, h3, h4, h5⟩)
                clear HNO HYES
                go_wp2_with fail
                go_ret
                exact ⟨ret_bool HE.out, HB2'.out⟩
              · have HE := hide (HNO.out (fun h => h5 h.2.2.2.2))
                clear HNO HYES
                go_wp2_with fail
                exact ⟨⟨i + 1, by omega, by go_num, HE, HP2, HQ2, HB2'⟩, by simp [intOf]; omega⟩
            · have HE := hide (HNO.out (fun h => h4 h.2.2.2.1))
              clear HNO HYES
              go_wp2_with fail
              exact ⟨⟨i + 1, by omega, by go_num, HE, HP2, HQ2, HB2'⟩, by simp [intOf]; omega⟩
          · have HE := hide (HNO.out (fun h => h3 h.2.2.1))
            clear HNO HYES
            go_wp2_with fail
            exact ⟨⟨i + 1, by omega, by go_num, HE, HP2, HQ2, HB2'⟩, by simp [intOf]; omega⟩
        · have HE := hide (HNO.out (fun h => h2 h.2.1))
          clear HNO HYES
          go_wp2_with fail
          exact ⟨⟨i + 1, by omega, by go_num, HE, HP2, HQ2, HB2'⟩, by simp [intOf]; omega⟩
      · have HE := hide (HNO.out (fun h => h1 h.1))
        clear HNO HYES
        go_wp2_with fail
        exact ⟨⟨i + 1, by omega, by go_num, HE, HP2, HQ2, HB2'⟩, by simp [intOf]; omega⟩
    · have hin : i = n := by omega
      have HE : Hid (false = wiB ack x p0 p1 zs) := hide (by rw [HC.out, hin, List.drop_eq_nil_of_le (by rw [HN.out]; exact Nat.le_refl _)]; rfl)
      clear HC
      go_wp2_with fail
      go_ret
      exact ⟨ret_bool HE.out, HB.out⟩
end Go.Proofs.Ytddkcgngpclgfab
