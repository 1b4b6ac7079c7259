/-
Contracts of functions of this seat.
-/
import Derived.Test.YtddkcgngpclgfaaRows
import Derived.WalkKit
import Derived.ProofKit
import Derived.OpenShut
import Derived.Test.YtddkcgngpclgfaaBl8
import Derived.Test.YtddkcgngpclgfaaL1BoardPipe
import Derived.Deep.QuietTactic
import Derived.BigQuiet
namespace Go.Proofs.Ytddkcgngpclgfaa
open Go.ChangeShapes Go.WideShapes Go.ChangeAt Go.RowKit
set_option linter.unusedVariables false
set_option maxRecDepth 100000
set_option maxHeartbeats 4000000 in
theorem implPipe_no {u x : Int} {os : List PieceM} (hno : ¬ bOK u x os) : BoardPipeP 12 (fun _ => True) u x os (-1) := by
  intro a n cap w hn ha hc hm _
  have HB0 := hide (BoxV.start w #[.int .i64 u, .int .i64 x, .slice a n cap] 29)
  have k0 := HB0.out.cell 0 _ rfl; have k1 := HB0.out.cell 1 _ rfl; have k2 := HB0.out.cell 2 _ rfl
  have CV := hide (newPieceList_no u x a n cap os (w.alloc (.cells #[.int .i64 u, .int .i64 x, .slice a n cap] 29)) hn (ha.below HB0.out.1 (Nat.le_refl _)) hm hno)
  clear hn ha hno
  go_enter Try.func12, Try.ntmps12
  go_wp2_with fail
  refine CV.out.mono ?_
  rintro e w1 ⟨rfl, hw1⟩
  go_wp2_with fail
  go_ret
  exact ⟨rfl, (HB0.out.next hw1).1⟩
set_option maxHeartbeats 4000000 in
theorem implPipe_yes {u x : Int} {os : List PieceM} (hok : bOK u x os) : BoardPipeP 12 (fun _ => True) u x os (pipeS os) := by
  intro a n cap w hn ha hc hm _
  have HB0 := hide (BoxV.start w #[.int .i64 u, .int .i64 x, .slice a n cap] 29)
  have k0 := HB0.out.cell 0 _ rfl; have k1 := HB0.out.cell 1 _ rfl; have k2 := HB0.out.cell 2 _ rfl
  have CV := hide (newPieceList_yes u x a n cap os (w.alloc (.cells #[.int .i64 u, .int .i64 x, .slice a n cap] 29)) hn (ha.below HB0.out.1 (Nat.le_refl _)) hm hok)
  have HOK := hide hok
  clear hn ha hok
  go_enter Try.func12, Try.ntmps12
  go_wp2_with fail
  refine CV.out.mono ?_
  rintro e w1 ⟨L, ns, rfl, hD, hM, hw1⟩
  have CW := hide (onTheWay_walk _ L u x ns w1 hD (by rw [hM]; exact HOK.out))
  rw [hM] at CW
  have HB1 := hide (HB0.out.next hw1)
  clear hD hM hw1 CV k0 k1 k2 HB0
  go_wp2_with fail
  refine CW.out.mono ?_
  rintro e w2 ⟨rfl, hw2⟩
  go_wp2_with fail
  go_ret
  exact ⟨rfl, (HB1.out.next hw2).1⟩
set_option maxHeartbeats 4000000 in
theorem specPipe_no {u x : Int} {os : List PieceM} (hno : ¬ bOK u x os) : BoardPipeP 10 (fun _ => True) u x os (-1) := by
  intro a n cap w hn ha hc hm _
  have HB0 := hide (BoxV.start w #[.int .i64 u, .int .i64 x, .slice a n cap] 29)
  have k0 := HB0.out.cell 0 _ rfl; have k1 := HB0.out.cell 1 _ rfl; have k2 := HB0.out.cell 2 _ rfl
  have CV := hide (l15OK_walk u x a n cap os (w.alloc (.cells #[.int .i64 u, .int .i64 x, .slice a n cap] 29)) hn (ha.below HB0.out.1 (Nat.le_refl _)) hm)
  rw [bokB_no hno] at CV
  clear hn ha hno
  go_enter Try.func10, Try.ntmps10
  go_wp2_with fail
  refine CV.out.mono ?_
  rintro e w1 ⟨rfl, hw1⟩
  go_wp2_with fail
  go_ret
  exact ⟨rfl, (HB0.out.next hw1).1⟩
theorem take_snoc {os : List PieceM} {i : Nat} (h : i < os.length) : os.take (i + 1) = os.take i ++ [os[i]] := (List.take_append_getElem h).symm
set_option maxHeartbeats 8000000 in
theorem specPipe_yes {u x : Int} {os : List PieceM} (hok : bOK u x os) : BoardPipeP 10 (fun _ => True) u x os (pipeS os) := by
  intro a n cap w hn ha hc hm _
  have HB0 := hide (BoxV.start w #[.int .i64 u, .int .i64 x, .slice a n cap] 29)
  have k0 := HB0.out.cell 0 _ rfl; have k1 := HB0.out.cell 1 _ rfl; have k2 := HB0.out.cell 2 _ rfl
  have CV := hide (l15OK_walk u x a n cap os (w.alloc (.cells #[.int .i64 u, .int .i64 x, .slice a n cap] 29)) hn (ha.below HB0.out.1 (Nat.le_refl _)) hm)
  rw [bokB_yes hok] at CV
  have HN := hide hn; have HA := hide ha; have HOK := hide hok
  clear hn ha hok
  go_enter Try.func10, Try.ntmps10
  go_wp2_with fail
  refine CV.out.mono ?_
  rintro e w1 ⟨rfl, hw1⟩
  have HB1 := hide (HB0.out.next hw1)
  clear hw1 CV k0 k1 k2 HB0
  go_wp2_with fail
  go_loopw [3, 4] (fun s t w2 => ∃ i : Nat, i ≤ n ∧ t = .int .i64 i ∧ s = .int .i64 (pipeS (os.take i)) ∧ Hid (BoxV w w2 #[.int .i64 u, .int .i64 x, .slice a n cap] 29)) (fun _ t _ => n - (intOf t).toNat)
  case atStart => exact ⟨0, Nat.zero_le _, rfl, rfl, HB1⟩
  case round =>
    obtain ⟨i, hi, rfl, rfl, HB⟩ := hrel
    have b2 := HB.out.cell 2 _ rfl
    by_cases hlt : i < n
    · have hio : i < os.length := by rw [HN.out]; exact hlt
      obtain ⟨b, off, rfl, hbs, c0, c1, c2, c3, c4, c5⟩ := piece_cells (HA.out.below HB.out.1 (Nat.le_refl _)) hio
      have HT : Hid (pipeS (os.take (i + 1)) = pipeS (os.take i) + (if os[i].f4 = false ∧ os[i].f5 = false then os[i].f1 - os[i].f0 else 0)) := hide (by rw [take_snoc hio, pipeS_app]; simp [pipeS])
      obtain ⟨s0, s1⟩ : 0 ≤ pipeS (os.take i) ∧ pipeS (os.take i) ≤ 1099511627776 := bOK_parts (b := os.drop i) (by rw [List.take_append_drop]; exact HOK.out)
      obtain ⟨q0, q1, q2⟩ : 0 ≤ os[i].f0 ∧ os[i].f0 < os[i].f1 ∧ os[i].f1 ≤ 1099511627776 := bOK_piece HOK.out (List.getElem_mem hio)
      generalize pipeS (os.take i) = s at *
      generalize os[i] = o at *
      obtain ⟨x0, x1, x2, x3, x4, x5⟩ := o
      dsimp only at c0 c1 c2 c3 c4 c5 q0 q1 q2 HT
      cases hw : (!x4 && !x5) with
      | false =>
        have HS3 : Hid (pipeS (os.take (i + 1)) = s) := hide (by rw [HT.out, if_neg (by cases x4 <;> cases x5 <;> simp_all)]; omega)
        clear HT
        cases x4 with
        | true =>
          clear hw
          go_wp2_with fail
          exact ⟨⟨i + 1, by omega, by go_num, by rw [HS3.out], HB⟩, by simp [intOf]; omega⟩
        | false =>
          have h5 : x5 = true := by cases x5 <;> simp_all
          subst h5
          clear hw
          go_wp2_with fail
          exact ⟨⟨i + 1, by omega, by go_num, by rw [HS3.out], HB⟩, by simp [intOf]; omega⟩
      | true =>
        have HS3 : Hid (pipeS (os.take (i + 1)) = s + x1 - x0) := hide (by rw [HT.out, if_pos (by cases x4 <;> cases x5 <;> simp_all)]; omega)
        clear HT
        have h4 : x4 = false := by cases x4 <;> simp_all
        have h5 : x5 = false := by cases x5 <;> simp_all
        subst h4 h5
        clear hw
        go_wp2_with fail
        go_quiet (fail)
        go_wp2_with fail
        exact ⟨⟨i + 1, by omega, by go_num, by rw [HS3.out], hide (HB.out.next (below_drewN (Below.refl _ _) nq))⟩, by simp [intOf]; omega⟩
    · have hin : i = n := by omega
      subst hin
      have HF : Hid (pipeS (os.take i) = pipeS os) := hide (by rw [List.take_of_length_le (by rw [HN.out]; exact Nat.le_refl _)])
      generalize pipeS (os.take i) = s at *
      go_wp2_with fail
      go_ret
      exact ⟨ret_int HF.out, HB.out.1⟩
end Go.Proofs.Ytddkcgngpclgfaa
