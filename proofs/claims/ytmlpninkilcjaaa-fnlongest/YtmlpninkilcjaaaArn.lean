/-
Contracts of functions of this seat.
-/
import Derived.Test.YtmlpninkilcjaaaRows
import Derived.WalkKit
import Derived.ProofKit
import Derived.OpenShut
import Derived.Test.YtmlpninkilcjaaaNod
import Derived.Deep.CutRange
import Derived.Deep.QuietTactic
import Derived.BigQuiet
import Derived.Deep.RegionHeld3
namespace Go.Proofs.Ytmlpninkilcjaaa
open Go.ChangeShapes Go.WideShapes Go.ChangeAt Go.RowKit
set_option linter.unusedVariables false
set_option maxRecDepth 100000
theorem side_bit (a m : Nat) (hm : m < 32) : sideI (a : Int) (m : Int) = ((bitB a m : Nat) : Int) := by
  unfold sideI bitB
  rw [show ((m : Int)).toNat = m by omega]
  have e : a * 2 ^ m / 2147483648 = a / 2 ^ (31 - m) := by
    rw [show (2147483648 : Nat) = 2 ^ (31 - m) * 2 ^ m by rw [← Nat.pow_add, show 31 - m + m = 31 by omega], Nat.mul_div_mul_right _ _ (Nat.two_pow_pos m)]
  have e2 : (a : Int) * 2 ^ m = ((a * 2 ^ m : Nat) : Int) := by simp
  rw [e2, ← e]
  omega
def ptrV (o : Option Nat) : Value := .pointer (o.map (fun n => ⟨n, 0, none⟩))
def nodeV (r : Rec) : Array Value := #[.int .i64 (r.a : Int), .int .i64 (r.b : Int), ptrV (r.h.map Prod.fst), ptrV r.s0, ptrV r.s1]
set_option maxHeartbeats 4000000 in
theorem around_walk0 (B : Nat) (a b pa pb : Nat) (h s0 s1 : Value) (w : World) (hv : vP a b) (hp : vP pa pb) (m : Nat) (hmb : m ≤ b) (hm : comB (a : Int) (b : Int) (pa : Int) (pb : Int) = (m : Int)) (hB : HoldV w B #[.int .i64 (a : Int), .int .i64 (b : Int), h, s0, s1] ndT) :
    Calls Try.prog 79 #[.pointer (some ⟨B, 0, none⟩), .agg #[.int .i64 (pa : Int), .int .i64 (pb : Int)]] w fun e w' => Below w.heap.size w w' ∧ ((m = b ∧ e = .returned (.pointer (some ⟨B, 0, none⟩))) ∨ (m < b ∧ ∃ F, e = .returned (.pointer (some ⟨F, 0, none⟩)) ∧ w.heap.size ≤ F ∧ HoldV w' F (nodeV (forkR (mskN a m) m (bitB a m) B)) ndT)) := by
  have CC : Hid (∀ W, Calls Try.prog 85 #[.agg #[.int .i64 (a : Int), .int .i64 (b : Int)], .agg #[.int .i64 (pa : Int), .int .i64 (pb : Int)]] W fun e w' => e = .returned (.agg #[.int .i64 ((mskN a m : Nat) : Int), .int .i64 (m : Int)]) ∧ Below W.heap.size W w') := hide (fun W => by
    have hpre := comB_pre hv.2.1 hp.2.1
    have := common_walk (a : Int) (b : Int) (pa : Int) (pb : Int) W (by omega) (by have := hv.2.1; omega) (by omega) (by have := hv.1; omega) (by omega) hpre.1 hpre.2.1 hpre.2.2
    rw [hm, mskN_cast] at this
    exact this)
  have HS := hide (NB.start hB #[.int .i64 (pa : Int), .int .i64 (pb : Int)])
  have HV := hide hv
  have ha1 := hv.2.1
  have hm1 : m ≤ 32 := Nat.le_trans hmb hv.1
  have HMB := hide hmb
  clear hmb
  clear hB hv hp hm
  go_enter Try.func79, Try.ntmps79
  go_wp2_with fail
  go_cut [5] from 7 to 12 (fun s5 wx => ∃ C, s5 = .pointer (some ⟨C, 0, none⟩) ∧ Hid (NB w wx B #[.int .i64 (a : Int), .int .i64 (b : Int), h, s0, s1] #[.int .i64 (pa : Int), .int .i64 (pb : Int)] ∧ HoldV wx C #[.int .i64 ((mskN a m : Nat) : Int), .int .i64 (m : Int)] prT ∧ w.heap.size < C))
  case first =>
    go_region_held3 (fun w' => NB w w' B #[.int .i64 (a : Int), .int .i64 (b : Int), h, s0, s1] #[.int .i64 (pa : Int), .int .i64 (pb : Int)] ∧ w'.cell? ⟨B, 0, none⟩ = some (.int .i64 (a : Int)) ∧ w'.cell? ⟨B, 1, none⟩ = some (.int .i64 (b : Int)) ∧ w'.cell? ⟨w.heap.size, 0, none⟩ = some (.int .i64 (pa : Int)) ∧ w'.cell? ⟨w.heap.size, 1, none⟩ = some (.int .i64 (pb : Int)))
      (with_reducible (first | assumption | exact HS.out.drew.cells | exact (HS.out.alloc _).drew.cells | exact NBS.next (by assumption) hbc | exact NBS.alloc (by assumption) _ | exact NBS.set2 (by assumption) hC0 _ _ | exact ((HS.out.drew.next hbc).alloc _).cells))
      (first | (go_at_call 85; refine (CC.out _).mono ?_; rintro e w' ⟨rfl, hbc⟩; have hC := hold_alloc_d hbc; try simp only [World.size_alloc] at hC; have hC0 : w.heap.size < w.heap.size + 1 := (by omega); have k0 := hC.cell 0 _ rfl; have k1 := hC.cell 1 _ rfl; have kf := hC.frozen))
    all_goals (go_wp2_with fail)
    all_goals go_meet
    · exact ⟨_, rfl, hide ⟨(HS.out.drew.next hbc).alloc _, HoldV.new _ _ _, (HS.out.drew.next hbc).2.2.1.lt⟩⟩
    · exact ⟨_, rfl, hide ⟨((((HS.out.alloc _).drew.next hbc).set (show w.heap.size < w.heap.size + 1 by omega) 0 _).set (show w.heap.size < w.heap.size + 1 by omega) 1 _), (hC.set 0 _).set 1 _, by omega⟩⟩
  case rest =>
    obtain ⟨C, rfl, HC⟩ := hcut
    have d0 := HC.out.2.1.cell 0 _ rfl
    have d1 := HC.out.2.1.cell 1 _ rfl
    have b0 := HC.out.1.2.1.cell 0 _ rfl
    have b1 := HC.out.1.2.1.cell 1 _ rfl
    have heq := eqPref ((mskN a m : Nat) : Int) (m : Int) (a : Int) (b : Int)
    by_cases hmb : m = b
    · subst hmb
      have hE : (((mskN a m : Nat) : Int) == (a : Int) && (m : Int) == (m : Int)) = true := by rw [mskN_self HV.out]; simp
      rw [hE] at heq
      go_wp2_with fail
      go_quiet (fail)
      go_wp2_with fail
      go_ret
      first | exact ⟨below_drewN HC.out.1.1 nq, rfl⟩ | exact ⟨below_drewN HC.out.1.1 nq, .inl ⟨rfl, rfl⟩⟩
    · have hE : (((mskN a m : Nat) : Int) == (a : Int) && (m : Int) == (b : Int)) = false := by
        have hq : ((m : Int) == (b : Int)) = false := by simp; omega
        rw [hq, Bool.and_false]
      rw [hE] at heq
      go_wp2_with fail
      go_quiet (fail)
      go_wp2_with fail
      have HF : Hid (NB w ((wc.drewN nq).alloc (.cells #[.int .i64 ((mskN a m : Nat) : Int), .int .i64 (m : Int), .pointer none, .pointer none, .pointer none] ndT)) B #[.int .i64 (a : Int), .int .i64 (b : Int), h, s0, s1] #[.int .i64 (pa : Int), .int .i64 (pb : Int)]) := hide ((HC.out.1.next (below_drewN (Below.refl _ _) nq)).alloc _)
      have HG : Hid (HoldV ((wc.drewN nq).alloc (.cells #[.int .i64 ((mskN a m : Nat) : Int), .int .i64 (m : Int), .pointer none, .pointer none, .pointer none] ndT)) wc.heap.size #[.int .i64 ((mskN a m : Nat) : Int), .int .i64 (m : Int), .pointer none, .pointer none, .pointer none] ndT) := hide (HoldV.new _ _ _)
      have HL : Hid (w.heap.size ≤ wc.heap.size) := hide HC.out.1.1.size
      generalize (wc.drewN nq).alloc (.cells #[.int .i64 ((mskN a m : Nat) : Int), .int .i64 (m : Int), .pointer none, .pointer none, .pointer none] ndT) = W at *
      generalize wc.heap.size = F at *
      clear d0 d1 b0 b1 heq hE
      have b0 := HF.out.2.1.cell 0 _ rfl
      have f3 := HG.out.cell 3 _ rfl
      have f4 := HG.out.cell 4 _ rfl
      have ff := HG.out.frozen
      have CS := hide (side_walk F _ _ _ _ _ (a : Int) W.drew (by omega) (by omega) (by omega) (by omega) HG.out.drew)
      have hml : m < b := by have := HMB.out; omega
      have hm32 : m < 32 := by have := HV.out.1; omega
      rw [side_bit a m hm32] at CS
      have hK : bitB a m = 0 ∨ bitB a m = 1 := by have := bitB_lt a m; omega
      rcases hK with hK | hK
      · rw [hK] at CS
        go_region_with ((go_at_call 45; refine CS.out.mono ?_; rintro e w' ⟨rfl, rfl⟩))
        all_goals (go_wp2_with fail)
        go_ret
        exact ⟨(HF.out.1.setCell (p := ⟨F, 3, none⟩) HL.out _).drew, .inr ⟨hml, F, rfl, HL.out, by rw [hK]; exact (HG.out.set 3 _).drew⟩⟩
      · rw [hK] at CS
        go_region_with ((go_at_call 45; refine CS.out.mono ?_; rintro e w' ⟨rfl, rfl⟩))
        all_goals (go_wp2_with fail)
        go_ret
        exact ⟨(HF.out.1.setCell (p := ⟨F, 4, none⟩) HL.out _).drew, .inr ⟨hml, F, rfl, HL.out, by rw [hK]; exact (HG.out.set 4 _).drew⟩⟩
end Go.Proofs.Ytmlpninkilcjaaa
