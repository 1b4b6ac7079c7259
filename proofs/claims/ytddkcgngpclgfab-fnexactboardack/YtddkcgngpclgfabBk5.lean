/-
Contracts of functions of this seat.
-/
import Derived.Test.YtddkcgngpclgfabRows
import Derived.WalkKit
import Derived.ProofKit
import Derived.OpenShut
import Derived.Test.YtddkcgngpclgfabBk4
namespace Go.Proofs.Ytddkcgngpclgfab
open Go.ChangeShapes Go.WideShapes Go.ChangeAt Go.RowKit
set_option linter.unusedVariables false
set_option maxRecDepth 100000
theorem ge0_nat (i : Nat) : decide ((0 : Int) ≤ (i : Int)) = true := decide_eq_true (by omega)
set_option maxHeartbeats 16000000 in
theorem indexSt_walk (bl bp L c : Nat) (u x : Int) (ns : List (Nat × PieceM)) (q : PieceM) (pv nx : Option Nat) (a : Option Addr) (n cap : Nat) (zs : List Int) (w : World) (hl : w.cell? ⟨bl, 0, none⟩ = some (.pointer (some ⟨L, 0, none⟩))) (hll : bl < w.heap.size) (hp : w.cell? ⟨bp, 0, none⟩ = some (.pointer (some ⟨c, 0, none⟩))) (hpl : bp < w.heap.size) (hL : HoldV w L (plV u x ns) plT) (hc : HoldV w c (lpV q pv nx) lpT) (hn : zs.length = n * 2) (ha : ArrI w a zs) (hm : n ≤ 1048576) :
    Calls Try.prog 52 #[.slice a n cap, .func (.func 46) #[] #[.pointer (some ⟨bl, 0, none⟩), .pointer (some ⟨bp, 0, none⟩)]] w fun e w' => ∃ z : Int, e = .returned (.int .i64 z) ∧ Hid (decide (0 ≤ z) = wiB u x q.f0 q.f1 zs) ∧ Below w.heap.size w w' := by
  have HN := hide hn
  have HW : Hid (∀ W, Below w.heap.size w W → ArrI W a zs ∧ (∀ s0 s1, Calls Try.prog 46 #[.agg #[.int .i64 s0, .int .i64 s1], .pointer (some ⟨bl, 0, none⟩), .pointer (some ⟨bp, 0, none⟩)] W fun e w' => e = .returned (.bool (decide (u ≤ s0 ∧ s0 < s1 ∧ s1 ≤ x ∧ s0 ≤ q.f0 ∧ q.f1 ≤ s1))) ∧ Below W.heap.size W w')) := hide (fun W hW =>
    ⟨ha.below hW (Nat.le_refl _), fun s0 s1 => sackIs_walk bl bp L c u x ns q pv nx s0 s1 W ((hW.cell (p := ⟨bl, 0, none⟩) hll).trans hl) (Nat.lt_of_lt_of_le hll hW.size) ((hW.cell (p := ⟨bp, 0, none⟩) hpl).trans hp) (Nat.lt_of_lt_of_le hpl hW.size) (hL.next hW) (hc.next hW)⟩)
  clear hl hll hp hpl hL hc hn ha
  go_enter Try.func52, Try.ntmps52
  go_wp2_with fail
  go_loopw [8] (fun t w2 => ∃ i : Nat, i ≤ n ∧ t = .int .i64 i ∧ Hid (wiB u x q.f0 q.f1 zs = wiB u x q.f0 q.f1 (zs.drop (i * 2))) ∧ Hid (Below w.heap.size w w2)) (fun t _ => n - (intOf t).toNat)
  case atStart => exact ⟨0, Nat.zero_le _, rfl, hide (by rw [Nat.zero_mul]; rfl), hide (Below.refl _ _)⟩
  case round =>
    rename World => wk
    obtain ⟨i, hi, rfl, HC, HB⟩ := hrel
    by_cases hlt : i < n
    · have hlt2 : i * 2 + 2 ≤ n * 2 := by omega
      obtain ⟨hA2, hS⟩ := HW.out wk HB.out
      have HA2 := hide hA2
      obtain ⟨b, off, rfl, hb1, g0⟩ := HA2.out (i * 2) (by rw [HN.out]; omega)
      have g1 : wk.cell? ⟨b, off + (i * 2 + 1), none⟩ = some (.int .i64 (zs.getD (i * 2 + 1) 0)) := by
        obtain ⟨b', o', e, _, c⟩ := HA2.out (i * 2 + 1) (by rw [HN.out]; omega)
        cases e
        exact c
      rw [← Nat.add_assoc] at g1
      have HD : Hid (wiB u x q.f0 q.f1 zs = (decide (u ≤ zs.getD (i * 2) 0 ∧ zs.getD (i * 2) 0 < zs.getD (i * 2 + 1) 0 ∧ zs.getD (i * 2 + 1) 0 ≤ x ∧ zs.getD (i * 2) 0 ≤ q.f0 ∧ q.f1 ≤ zs.getD (i * 2 + 1) 0) || wiB u x q.f0 q.f1 (zs.drop ((i + 1) * 2)))) := hide (by rw [HC.out, drop_two (by rw [HN.out]; exact hlt2)]; conv => lhs; unfold wiB)
      clear HC HA2 hA2
      generalize zs.getD (i * 2) 0 = s0 at *
      generalize zs.getD (i * 2 + 1) 0 = s1 at *
      have CS := hide (hS s0 s1)
      clear hS
      cases hdd : decide (u ≤ s0 ∧ s0 < s1 ∧ s1 ≤ x ∧ s0 ≤ q.f0 ∧ q.f1 ≤ s1) with
      | true =>
        have HE : Hid (decide ((0 : Int) ≤ (i : Int)) = wiB u x q.f0 q.f1 zs) := hide (by rw [ge0_nat, HD.out, hdd, Bool.true_or])
        rw [hdd] at CS
        clear HD hdd
        go_wp2_with (go_at_call 46; refine CS.out.mono ?_; rintro e w3 ⟨rfl, hb3⟩; have HB3 := hide (HB.out.trans (hb3.mono HB.out.size)); clear hb3)
        go_ret
        exact ⟨_, rfl, HE, HB3.out⟩
      | false =>
        have HE : Hid (wiB u x q.f0 q.f1 zs = wiB u x q.f0 q.f1 (zs.drop ((i + 1) * 2))) := hide (by rw [HD.out, hdd, Bool.false_or])
        rw [hdd] at CS
        clear HD hdd
        go_wp2_with (go_at_call 46; refine CS.out.mono ?_; rintro e w3 ⟨rfl, hb3⟩; have HB3 := hide (HB.out.trans (hb3.mono HB.out.size)); clear hb3)
        exact ⟨⟨i + 1, by omega, by go_num, HE, HB3⟩, by simp [intOf]; omega⟩
    · have hin : i = n := by omega
      have HE : Hid (decide ((0 : Int) ≤ -1) = wiB u x q.f0 q.f1 zs) := hide (by rw [HC.out, hin, List.drop_eq_nil_of_le (by rw [HN.out]; exact Nat.le_refl _)]; rfl)
      clear HC
      go_wp2_with fail
      go_ret
      exact ⟨_, rfl, HE, HB.out⟩
set_option maxHeartbeats 4000000 in
theorem containsSt_walk (bl bp L c : Nat) (u x : Int) (ns : List (Nat × PieceM)) (q : PieceM) (pv nx : Option Nat) (a : Option Addr) (n cap : Nat) (zs : List Int) (w : World) (hl : w.cell? ⟨bl, 0, none⟩ = some (.pointer (some ⟨L, 0, none⟩))) (hll : bl < w.heap.size) (hp : w.cell? ⟨bp, 0, none⟩ = some (.pointer (some ⟨c, 0, none⟩))) (hpl : bp < w.heap.size) (hL : HoldV w L (plV u x ns) plT) (hc : HoldV w c (lpV q pv nx) lpT) (hn : zs.length = n * 2) (ha : ArrI w a zs) (hm : n ≤ 1048576) :
    Calls Try.prog 45 #[.slice a n cap, .func (.func 46) #[] #[.pointer (some ⟨bl, 0, none⟩), .pointer (some ⟨bp, 0, none⟩)]] w fun e w' => e = .returned (.bool (wiB u x q.f0 q.f1 zs)) ∧ Below w.heap.size w w' := by
  have CI := hide (indexSt_walk bl bp L c u x ns q pv nx a n cap zs w hl hll hp hpl hL hc hn ha hm)
  clear hl hll hp hpl hL hc hn ha
  go_enter Try.func45, Try.ntmps45
  go_wp2_with fail
  refine CI.out.mono ?_
  rintro e w3 ⟨z, rfl, HE, hb3⟩
  have HB3 := hide hb3
  clear hb3
  go_wp2_with fail
  go_ret
  exact ⟨ret_bool HE.out, HB3.out⟩
set_option maxHeartbeats 4000000 in
theorem markSacked_walk (c : Nat) (q : PieceM) (pv nx : Option Nat) (w : World) (h : HoldV w c (lpV q pv nx) lpT) (h0 : 0 ≤ q.f0) (h1 : q.f0 < q.f1) (h2 : q.f1 ≤ 1099511627776) :
    Calls Try.prog 49 #[.pointer (some ⟨c, 0, none⟩)] w fun e w' => e = .returned (.int .i64 (q.f1 - q.f0)) ∧ HoldV w' c (lpV ⟨q.f0, q.f1, q.f2, q.f3, true, false⟩ pv nx) lpT ∧ w.grownBy w' (some c) := by
  obtain ⟨x0, x1, x2, x3, x4, x5⟩ := q
  have c4 := h.cell 4 _ rfl; have c5 := h.cell 5 _ rfl; have cf := h.frozen
  have HC2 : Hid (HoldV ((w.setCell ⟨c, 4, none⟩ (.bool true)).setCell ⟨c, 5, none⟩ (.bool false)) c (lpV ⟨x0, x1, x2, x3, true, false⟩ pv nx) lpT) := hide (hv_set (hv_set h 4 _) 5 _)
  have HG : Hid (w.grownBy ((w.setCell ⟨c, 4, none⟩ (.bool true)).setCell ⟨c, 5, none⟩ (.bool false)) (some c)) := hide (gr_set (gr_set (grown_reflp _ _) 4 _) 5 _)
  have CZ := hide (size_walk x0 x1 x2 x3 true false ((w.setCell ⟨c, 4, none⟩ (.bool true)).setCell ⟨c, 5, none⟩ (.bool false)) h0 h1 h2)
  clear h h0 h1 h2
  go_enter Try.func49, Try.ntmps49
  go_upto_region 2 with fail
  clear c4 c5 cf
  generalize (w.setCell ⟨c, 4, none⟩ (.bool true)).setCell ⟨c, 5, none⟩ (.bool false) = W at *
  have c0 := HC2.out.cell 0 _ rfl; have c1 := HC2.out.cell 1 _ rfl; have c2 := HC2.out.cell 2 _ rfl; have c3 := HC2.out.cell 3 _ rfl; have c4 := HC2.out.cell 4 _ rfl; have c5 := HC2.out.cell 5 _ rfl
  go_wp2_with fail
  refine CZ.out.mono ?_
  rintro e w2 ⟨rfl, hb2⟩
  go_wp2_with fail
  go_ret
  exact ⟨rfl, HC2.out.next hb2, ⟨hb2.os.trans HG.out.os, hb2.tape.trans HG.out.tape, hb2.output.trans HG.out.output, Nat.le_trans HG.out.size hb2.size, fun k hk hne => (hb2.block k (Nat.lt_of_lt_of_le hk HG.out.size)).trans (HG.out.block k hk hne)⟩⟩
end Go.Proofs.Ytddkcgngpclgfab
