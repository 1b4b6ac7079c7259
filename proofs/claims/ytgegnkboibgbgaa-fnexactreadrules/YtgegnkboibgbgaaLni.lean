/-
Contracts of functions of this seat.
-/
import Derived.Test.YtgegnkboibgbgaaRows
import Derived.WalkKit
import Derived.ProofKit
import Derived.OpenShut
import Derived.Test.YtgegnkboibgbgaaLno
import Derived.Test.YtgegnkboibgbgaaRgo
namespace Go.Proofs.Ytgegnkboibgbgaa
open Go.ChangeShapes Go.WideShapes Go.ChangeAt Go.RowKit
set_option linter.unusedVariables false
set_option maxRecDepth 100000
open Go.Shelf
attribute [local go_sem] Oper.semAt_some
set_option maxHeartbeats 8000000 in
/-- linesOf's function of the program hands over the lines that have words. -/
theorem lines_ok (l : List UInt8) (n : Nat) (hn : 1 ≤ n) (hl : l.length ≤ 20000) (Bt : Nat) (w : World) (hbt : w.cell? ⟨Bt, 0, none⟩ = some (.string (bs l))) (hlt : Bt < w.heap.size) :
    SeqOk Fence.wide n Try.prog 54 #[.pointer (some ⟨Bt, 0, none⟩)] Lin.vals Lin.ok (fun xs => xs.map Lin.cont = NL ((splitL 10 l).map lineW) 0) (fun pre => pre.map Lin.cont <+: NL ((splitL 10 l).map lineW) 0) w := by
  intro l0 J Jx W hbW hJ hY h0
  have hbt2 : W.cell? ⟨Bt, 0, none⟩ = some (.string (bs l)) := (hbW.cell (p := ⟨Bt, 0, none⟩) hlt).trans hbt
  have HYY := hide hY
  have HJJ := hide hJ
  have HBW := hide hbW
  have HH0 := hide h0
  clear hY hJ hbW h0 hbt hlt
  refine callsIn_of_wp Try.func54 rfl trivial ?_ rfl
  simp only [Try.ntmps54, List.size_toArray, List.length_cons, List.length_nil, Nat.reduceAdd, Nat.reduceSub, Array.replicate_succ, Array.replicate_zero, List.push_toArray, List.append_toArray, List.nil_append, List.cons_append]
  gi_wp2_with fail
  gi_loopw [3, 4] (fun a b wr => ∃ (k : Nat) (rest : List UInt8) (pre : List Lin), rest.length + k ≤ 20000 ∧ a = .string (bs rest) ∧ b = .int .i64 ((k : Int) + 1) ∧ Hid (NL ((splitL 10 l).map lineW) 0 = pre.map Lin.cont ++ NL ((splitL 10 rest).map lineW) k) ∧ Hid (J pre wr)) (fun a b wr => sizeV a)
  case atStart =>
    exact ⟨0, l, [], by omega, rfl, rfl, hide rfl, HH0⟩
  case round =>
    obtain ⟨k, rest, pre, hk, rfl, rfl, HE, HJ⟩ := hrel
    have CC := hide (fun W => cut_any 10 rest W (by omega))
    have CW := hide (fun W => wordsOf_walk (upTo 10 rest) W (by have := upTo_len 10 rest; omega))
    rw [wordsL_eq] at CW
    have HNS := hide (NL_step rest k)
    cases hr : rest with
    | nil =>
      subst hr
      have HX : Hid (pre.map Lin.cont = NL ((splitL 10 l).map lineW) 0) := hide (by rw [HE.out]; simp [splitL, NL, lineW, upTo, fieldsB])
      have hs0 : (bs ([] : List UInt8)) = ⟨#[]⟩ := rfl
      rw [hs0]
      gi_wp2_with fail
      go_end0
      exact ⟨⟨_, rfl⟩, .inl ⟨pre, HX.out, HJ.out⟩⟩
    | cons c r =>
      have hne : (!(bs rest).toList.isEmpty) = true := by rw [bs_toList, hr]; rfl
      have hpos : 0 < rest.length := by rw [hr]; simp
      rw [← hr]
      clear hr c r
      have hpl : (past 10 rest).length < rest.length := by have := past_len 10 rest; omega
      have HWC : Hid (∀ p ∈ lineW (upTo 10 rest), p.length ≤ 20000) := hide (fun p hp => by have := lineW_mem hp; have := upTo_len 10 rest; omega)
      have HWN : Hid ((lineW (upTo 10 rest)).length ≤ 20001) := hide (by have := lineW_count (upTo 10 rest); have := upTo_len 10 rest; omega)
      have CW2 : Hid (∀ W, Calls Try.prog 56 #[.string (bs (upTo 10 rest))] W fun e w' => ∃ A, e = .returned (.slice (some ⟨A, 0, none⟩) (lineW (upTo 10 rest)).length (lineW (upTo 10 rest)).length) ∧ ArrS w' (some ⟨A, 0, none⟩) (lineW (upTo 10 rest)) ∧ W.heap.size ≤ A ∧ Below W.heap.size W w') := CW
      clear CW
      have hwr : IntKind.i64.wrap ((k : Int) + 1 + 1) = (k : Int) + 1 + 1 := by rw [IntKind.wrap_i64]; omega
      generalize lineW (upTo 10 rest) = ws at *
      generalize upTo 10 rest = line at *
      generalize hpp : past 10 rest = rest' at *
      clear hpp
      cases ws with
      | nil =>
        have HE2 : Hid (NL ((splitL 10 l).map lineW) 0 = pre.map Lin.cont ++ NL ((splitL 10 rest').map lineW) (k + 1)) := hide (by rw [HE.out, HNS.out]; rfl)
        clear HE HNS
        gi_wp2_with (first
          | (refine ⟨trivial, ?_⟩; gi_at_call 55; refine (callsIn_wide.2 (CC.out _)).mono ?_; rintro e w1 ⟨m, rfl, hb1⟩)
          | (refine ⟨trivial, ?_⟩; gi_at_call 56; refine (callsIn_wide.2 (CW2.out _)).mono ?_; rintro e w2 ⟨A, rfl, -, -, hb2⟩; have HJ2 := hide (HJJ.out _ _ _ (HJJ.out _ _ _ HJ.out hb1) hb2); clear hb1 hb2))
        refine ⟨fun _ h => (by cases h), ?_⟩
        gi_wp2_with fail
        go_roundw
        case rel => exact ⟨k + 1, rest', pre, by omega, rfl, by go_num, HE2, HJ2⟩
        case measure => rw [sizeV_s, sizeV_s]; exact hpl
      | cons p r =>
        have HE2 : Hid (NL ((splitL 10 l).map lineW) 0 = (pre.map Lin.cont ++ [(((k + 1 : Nat) : Int), p :: r)]) ++ NL ((splitL 10 rest').map lineW) (k + 1)) := hide (by rw [HE.out, HNS.out, List.append_assoc]; rfl)
        clear HE HNS
        have HPS := hide (show (p :: r) ≠ [] from by simp)
        generalize hps : (p :: r) = ps at *
        have hm0 : 0 < ps.length := by rw [← hps]; simp
        clear hps
        obtain ⟨m, hm, HM⟩ : ∃ m, ps.length = m ∧ Hid (ps.length = m) := ⟨_, rfl, hide rfl⟩
        rw [hm] at hm0 CW2
        clear hm
        have hm0i : (0 : Int) < (m : Int) := by omega
        gi_wp2_with (first | (refine ⟨trivial, ?_⟩; gi_at_call 55; refine (callsIn_wide.2 (CC.out _)).mono ?_; rintro e w1 ⟨mq, rfl, hb1⟩))
        refine ⟨trivial, ?_⟩
        refine (callsIn_wide.2 (CW2.out _)).mono ?_
        rintro e w2 ⟨A, rfl, har, hA, hb2⟩
        have HJ2 := hide (HJJ.out _ _ _ (HJJ.out _ _ _ HJ.out hb1) hb2)
        have HOK : Hid (Lin.ok ⟨(k : Int) + 1, A, ps⟩ w2) := hide ⟨har, HPS.out, HWC.out, HWN.out, by show (0 : Int) ≤ (k : Int) + 1; omega, by show (k : Int) + 1 ≤ 1000000; omega⟩
        obtain ⟨fn, tmps, assign, body, hy, hR⟩ := HYY.out pre ⟨(k : Int) + 1, A, ps⟩ w2 HJ2.out HOK.out
        unfold Lin.vals at hy
        dsimp only at hy
        rw [HM.out] at hy
        clear har hA hb1 hb2
        gi_wp2_with fail
        refine hR.mono ?_
        rintro e w3 (⟨rfl, hJ3⟩ | ⟨rfl, hJx3⟩)
        · have HE3 : Hid (NL ((splitL 10 l).map lineW) 0 = (pre ++ [(⟨(k : Int) + 1, A, ps⟩ : Lin)]).map Lin.cont ++ NL ((splitL 10 rest').map lineW) (k + 1)) := hide (by rw [HE2.out, List.map_append]; rfl)
          have HJ3 := hide hJ3
          clear hJ3 hR hy HJ2 HOK
          gi_wp2_with fail
          go_roundw
          case rel => exact ⟨k + 1, rest', _, by omega, rfl, by go_num, HE3, HJ3⟩
          case measure => rw [sizeV_s, sizeV_s]; exact hpl
        · have HX3 : Hid ((pre ++ [(⟨(k : Int) + 1, A, ps⟩ : Lin)]).map Lin.cont <+: NL ((splitL 10 l).map lineW) 0) := hide ⟨NL ((splitL 10 rest').map lineW) (k + 1), by rw [HE2.out, List.map_append]; rfl⟩
          have HJX := hide hJx3
          clear hJx3 hR hy HJ2 HOK
          gi_wp2_with fail
          refine bodyPost_ret (results_none rfl _ _ _) rfl ?_
          exact ⟨⟨_, rfl⟩, .inr ⟨_, HX3.out, HJX.out⟩⟩
end Go.Proofs.Ytgegnkboibgbgaa
