/-
Contracts of functions of this seat.
-/
import Derived.Test.YthcmgnhfgplajaaDoorRows
import Derived.WalkKit
import Derived.ProofKit
import Derived.OpenShut
import Derived.Test.YthcmgnhfgplajaaDoorSoi
import Derived.Test.YthcmgnhfgplajaaDoorSvl
namespace Go.Proofs.YthcmgnhfgplajaaDoor
open Go.ChangeShapes Go.WideShapes Go.ChangeAt Go.RowKit
set_option linter.unusedVariables false
set_option maxRecDepth 100000
theorem own_none {w : World} {B n c : Nat} {zs : List Int} (h : OwnB w B (.slice none n c) zs) : n = 0 ∧ c = 0 := by
  rcases h.1.2 with ⟨e2, e3⟩ | ⟨g, cap, cur, e2, _⟩
  · injection e2 with q1 q2 q3; exact ⟨q2, q3⟩
  · cases e2
theorem putL_one (sc : Int) (h0 : 0 ≤ sc) (h1 : sc ≤ 14) : putL sc 1 = [sc] := by
  unfold putL byteOf
  simp [List.range_succ]
  omega
theorem OpS.lo {w W : World} {vs : Array Value} {a0 : Option Addr} {z : List Int} {v : Value} {L : List Int} (h : OpS w W vs a0 z v L) (ha : ∀ j, j < z.length → ∃ b off, a0 = some ⟨b, off, none⟩ ∧ b < w.heap.size + 1) {W' : World} {u : Value} {M : List Int} (hb : Below (w.heap.size + 1) W W') (ho : OwnB W' (w.heap.size + 1) u M) : OpS w W' vs a0 z u M :=
  ⟨ho, h.2.1.trans (hb.mono (by omega)), h.2.2.1.below hb (by omega), fun j hj => by
    obtain ⟨b, off, e, hlt, hc⟩ := h.2.2.2 j hj
    obtain ⟨b2, off2, e2, hl2⟩ := ha j hj
    rw [e] at e2
    injection e2 with e2; injection e2 with e3 e4; subst e3 e4
    exact ⟨b, off, e, Nat.lt_of_lt_of_le hlt hb.size, by rw [hb.cell (p := ⟨b, off + j, none⟩) hl2]; exact hc⟩⟩
set_option maxHeartbeats 8000000 in
theorem optionBytes_walk (x0 x1 x2 x3 x4 x5 x6 : Int) (x7 : Bool) (x8 : Int) (x9 : Bool) (a0 : Option Addr) (n0 c0 : Nat) (a1 : Option Addr) (n1 c1 : Nat) (z : List Int) (w : World) (hz : z.length = n0 * 2) (ha : ArrI w a0 z) (h3 : n0 ≤ 3) (h80 : 0 ≤ x8) (h81 : x8 ≤ 14) :
    Calls Tryd.prog 55 #[.agg #[.int .i64 x0, .int .i64 x1, .int .i64 x2, .int .i64 x3, .int .i64 x4, .int .i64 x5, .int .i64 x6, .bool x7, .int .i64 x8, .bool x9, .slice a0 n0 c0, .slice a1 n1 c1]] w fun e w' => ∃ r : Value, e = .returned r ∧ OwnB w' w.heap.size r (segO x6 x7 x8 x9 n0 z) ∧ Below w.heap.size w w' := by
  have hb2 := (Below.refl w.heap.size w).alloc (Nat.le_refl _) (.cells #[.int .i64 x0, .int .i64 x1, .int .i64 x2, .int .i64 x3, .int .i64 x4, .int .i64 x5, .int .i64 x6, .bool x7, .int .i64 x8, .bool x9, .slice a0 n0 c0, .slice a1 n1 c1] sgT)
  have H0 : Hid (OpS w (w.alloc (.cells #[.int .i64 x0, .int .i64 x1, .int .i64 x2, .int .i64 x3, .int .i64 x4, .int .i64 x5, .int .i64 x6, .bool x7, .int .i64 x8, .bool x9, .slice a0 n0 c0, .slice a1 n1 c1] sgT)) #[.int .i64 x0, .int .i64 x1, .int .i64 x2, .int .i64 x3, .int .i64 x4, .int .i64 x5, .int .i64 x6, .bool x7, .int .i64 x8, .bool x9, .slice a0 n0 c0, .slice a1 n1 c1] a0 z (.slice none 0 0) []) := hide ⟨⟨World.ownsRow_nil _ _ _ _, by simp⟩, hb2, heap_alloc_new _ _, ha.below hb2 (Nat.le_refl _)⟩
  have HZ := hide hz
  have HAL : Hid (∀ j, j < z.length → ∃ b off, a0 = some ⟨b, off, none⟩ ∧ b < w.heap.size + 1) := hide (fun j hj => by obtain ⟨b, off, e, hl, _⟩ := ha j hj; exact ⟨b, off, e, by omega⟩)
  clear hb2 hz ha
  go_enter Tryd.func55, Tryd.ntmps55
  go_upto_region 2 with fail
  generalize w.alloc (.cells #[.int .i64 x0, .int .i64 x1, .int .i64 x2, .int .i64 x3, .int .i64 x4, .int .i64 x5, .int .i64 x6, .bool x7, .int .i64 x8, .bool x9, .slice a0 n0 c0, .slice a1 n1 c1] sgT) = W0 at *
  have k6 := H0.out.2.2.1.cell 6 _ rfl
  have HM4 : Hid (([] : List Int).length % 4 = 0) := hide rfl
  have HLn : Hid (([] : List Int).length ≤ 100) := hide (by simp)
  go_upto_if 6 with fail
  go_cut [3] (fun s3 wx => Hid (OpS w wx #[.int .i64 x0, .int .i64 x1, .int .i64 x2, .int .i64 x3, .int .i64 x4, .int .i64 x5, .int .i64 x6, .bool x7, .int .i64 x8, .bool x9, .slice a0 n0 c0, .slice a1 n1 c1] a0 z s3 (sgO1 x6)))
  case first =>
    by_cases hx : x6 = 0
    · subst hx
      clear k6
      go_wp2_with fail
      go_meet
      exact H0
    · have hb6 : (x6 != 0) = true := by simp [hx]
      have HX := hide hx
      clear hx
      have HV := hide (H0.out.1.1.lt)
      have hsz : w.heap.size + 1 ≤ W0.heap.size := H0.out.2.2.1.lt
      have CP := hide (numberBytes_own x6 2 W0 (by omega))
      go_wp2_with fail
      refine CP.out.mono ?_
      clear CP k6
      rintro e w2 ⟨rfl, ho, hb⟩
      have HBA : Hid (∀ j, j < (putL x6 2).length → ∃ b off, (some (⟨W0.heap.size, 0, none⟩ : Addr)) = some ⟨b, off, none⟩ ∧ (Value.slice none 0 0).ownBlock ≠ some b) := hide (fun j hj => ⟨_, _, rfl, fun e => by have := (HV.out _ e).2; omega⟩)
      have H2 := hide (H0.out.next hb)
      have CA := hide (appendOption_walk (Value.slice none 0 0) ([]) 2 (some ⟨W0.heap.size, 0, none⟩) 2 2 0 (putL x6 2) (w.heap.size + 1) w2 H2.out.1 (by have := hb.size; omega) (HM4.out) (by have := HLn.out; omega) (by simp [putL_len]) (by omega) ho (by omega) (by omega) (by omega) (by omega) (fun e => by cases e) HBA.out)
      clear hb HV ho
      go_wp2_with fail
      refine CA.out.mono ?_
      rintro e w3 ⟨r, rfl, ho3, hb3⟩
      have H3 := hide (H2.out.lo HAL.out hb3 ho3)
      clear hb3 ho3 CA
      go_wp2_with fail
      go_meet
      have e : sgO1 x6 = [] ++ List.replicate 0 1 ++ [2, ((2 + 2 : Nat) : Int)] ++ putL x6 2 := by unfold sgO1; rw [if_neg HX.out]; rfl
      rw [e]; exact H3
  case rest =>
  clear H0 HM4 HLn
  have HC := hcut
  clear hcut
  generalize hLL : (sgO1 x6) = LL at HC
  have HLL := hide hLL
  clear hLL
  have HLn : Hid (LL.length ≤ 50) := hide (by rw [← HLL.out]; unfold sgO1; split <;> simp [putL_len])
  have HM4 : Hid (LL.length % 4 = 0) := hide (by rw [← HLL.out]; unfold sgO1; split <;> simp [putL_len])
  have k7 := HC.out.2.2.1.cell 7 _ rfl; have k8 := HC.out.2.2.1.cell 8 _ rfl
  go_upto_if 13 with fail
  go_cut [3] (fun s3 wx => Hid (OpS w wx #[.int .i64 x0, .int .i64 x1, .int .i64 x2, .int .i64 x3, .int .i64 x4, .int .i64 x5, .int .i64 x6, .bool x7, .int .i64 x8, .bool x9, .slice a0 n0 c0, .slice a1 n1 c1] a0 z s3 (sgO1 x6 ++ sgO2 x7 x8)))
  case first =>
    rcases (show x7 = false ∨ x7 = true by cases x7 <;> simp) with h7 | h7
    · subst h7
      clear k7 k8
      go_wp2_with fail
      go_meet
      have e : sgO1 x6 ++ sgO2 false x8 = LL := by rw [← HLL.out]; simp [sgO2]
      rw [e]; exact HC
    · subst h7
      have HV := hide (HC.out.1.1.lt)
      have hsz : w.heap.size + 1 ≤ wc.heap.size := HC.out.2.2.1.lt
      have CP := hide (numberBytes_own x8 1 wc (by omega))
      go_wp2_with fail
      refine CP.out.mono ?_
      clear CP k7 k8
      rintro e w2 ⟨rfl, ho, hb⟩
      have HBA : Hid (∀ j, j < (putL x8 1).length → ∃ b off, (some (⟨wc.heap.size, 0, none⟩ : Addr)) = some ⟨b, off, none⟩ ∧ (u3).ownBlock ≠ some b) := hide (fun j hj => ⟨_, _, rfl, fun e => by have := (HV.out _ e).2; omega⟩)
      have H2 := hide (HC.out.next hb)
      have CA := hide (appendOption_walk (u3) (LL) 3 (some ⟨wc.heap.size, 0, none⟩) 1 1 1 (putL x8 1) (w.heap.size + 1) w2 H2.out.1 (by have := hb.size; omega) (HM4.out) (by have := HLn.out; omega) (by simp [putL_len]) (by omega) ho (by omega) (by omega) (by omega) (by omega) (fun e => by cases e) HBA.out)
      clear hb HV ho
      go_wp2_with fail
      refine CA.out.mono ?_
      rintro e w3 ⟨r, rfl, ho3, hb3⟩
      have H3 := hide (H2.out.lo HAL.out hb3 ho3)
      clear hb3 ho3 CA
      go_wp2_with fail
      go_meet
      have e : sgO1 x6 ++ sgO2 true x8 = LL ++ List.replicate 1 1 ++ [3, ((1 + 2 : Nat) : Int)] ++ putL x8 1 := by rw [← HLL.out, putL_one x8 h80 h81]; unfold sgO2; simp
      rw [e]; exact H3
  case rest =>
  clear HC HM4 HLn HLL
  have HC := hcut
  clear hcut
  generalize hLL : (sgO1 x6 ++ sgO2 x7 x8) = LL at HC
  have HLL := hide hLL
  clear hLL
  have HLn : Hid (LL.length ≤ 50) := hide (by rw [← HLL.out]; unfold sgO1 sgO2; split <;> split <;> simp [putL_len])
  have HM4 : Hid (LL.length % 4 = 0) := hide (by rw [← HLL.out]; unfold sgO1 sgO2; split <;> split <;> simp [putL_len])
  have k9 := HC.out.2.2.1.cell 9 _ rfl
  go_upto_if 20 with fail
  go_cut [3] (fun s3 wx => Hid (OpS w wx #[.int .i64 x0, .int .i64 x1, .int .i64 x2, .int .i64 x3, .int .i64 x4, .int .i64 x5, .int .i64 x6, .bool x7, .int .i64 x8, .bool x9, .slice a0 n0 c0, .slice a1 n1 c1] a0 z s3 (sgO1 x6 ++ sgO2 x7 x8 ++ sgO3 x9)))
  case first =>
    rcases (show x9 = false ∨ x9 = true by cases x9 <;> simp) with h9 | h9
    · subst h9
      clear k9
      go_wp2_with fail
      go_meet
      have e : sgO1 x6 ++ sgO2 x7 x8 ++ sgO3 false = LL := by rw [← HLL.out]; simp [sgO3]
      rw [e]; exact HC
    · subst h9
      have HV := hide (HC.out.1.1.lt)
      have hsz : w.heap.size + 1 ≤ wc.heap.size := HC.out.2.2.1.lt
      have H2 := HC
      have CA := hide (appendOption_walk (u3) (LL) 4 none 0 0 2 [] (w.heap.size + 1) wc H2.out.1 (by omega) (HM4.out) (by have := HLn.out; omega) rfl (by omega) ⟨by simp, fun j hj => by simp at hj⟩ (by omega) (by omega) (by omega) (by omega) (fun _ => ⟨rfl, rfl⟩) (fun j hj => by simp at hj))
      clear HV k9
      go_wp2_with fail
      refine CA.out.mono ?_
      rintro e w3 ⟨r, rfl, ho3, hb3⟩
      have H3 := hide (H2.out.lo HAL.out hb3 ho3)
      clear hb3 ho3 CA
      go_wp2_with fail
      go_meet
      have e : sgO1 x6 ++ sgO2 x7 x8 ++ sgO3 true = LL ++ List.replicate 2 1 ++ [4, ((0 + 2 : Nat) : Int)] ++ [] := by rw [← HLL.out]; unfold sgO3; simp
      rw [e]; exact H3
  case rest =>
  clear HC HM4 HLn HLL
  have HC := hcut
  clear hcut
  generalize hLL : (sgO1 x6 ++ sgO2 x7 x8 ++ sgO3 x9) = LL at HC
  have HLL := hide hLL
  clear hLL
  have HLn : Hid (LL.length ≤ 50) := hide (by rw [← HLL.out]; unfold sgO1 sgO2 sgO3; split <;> split <;> split <;> simp [putL_len])
  have HM4 : Hid (LL.length % 4 = 0) := hide (by rw [← HLL.out]; unfold sgO1 sgO2 sgO3; split <;> split <;> split <;> simp [putL_len])
  have k10 := HC.out.2.2.1.cell 10 _ rfl
  go_upto_if 26 with fail
  go_cut [3] (fun s3 wx => Hid (OpS w wx #[.int .i64 x0, .int .i64 x1, .int .i64 x2, .int .i64 x3, .int .i64 x4, .int .i64 x5, .int .i64 x6, .bool x7, .int .i64 x8, .bool x9, .slice a0 n0 c0, .slice a1 n1 c1] a0 z s3 (sgO1 x6 ++ sgO2 x7 x8 ++ sgO3 x9 ++ sgO4 n0 ++ sgO5 z)))
  case first =>
    by_cases hn0 : n0 = 0
    · subst hn0
      have hz0 : z = [] := List.length_eq_zero_iff.1 (by have := HZ.out; omega)
      clear k10
      have k10 := HC.out.2.2.1.cell 10 _ rfl
      go_wp2_with fail
      go_meet
      have e : sgO1 x6 ++ sgO2 x7 x8 ++ sgO3 x9 ++ sgO4 0 ++ sgO5 z = LL := by rw [← HLL.out, hz0]; simp [sgO4, sgO5]
      rw [e]; exact HC
    · have hp0 : 0 < n0 := by omega
      have hp1 : (0 : Int) < (n0 : Int) := by omega
      have HN0 := hide hn0
      clear hn0
      have HV := hide (HC.out.1.1.lt)
      have hsz : w.heap.size + 1 ≤ wc.heap.size := HC.out.2.2.1.lt
      have CP := hide (stretchBytes_walk a0 n0 c0 z wc HZ.out HC.out.2.2.2 h3)
      go_wp2_with fail
      refine CP.out.mono ?_
      clear CP k10
      rintro e w2 ⟨u, rfl, ho, hb⟩
      obtain ⟨ua, uc, rfl, hua⟩ := own_slice ho
      have HBA : Hid (∀ j, j < (sgO5 z).length → ∃ b off, ua = some ⟨b, off, none⟩ ∧ (u3).ownBlock ≠ some b) := hide (fun j hj => by obtain ⟨b, off, e, _, _⟩ := hua.2 j hj; have hg := ho.1.lt b (by rw [e]; rfl); exact ⟨b, off, e, fun e2 => by have := (HV.out _ e2).2; omega⟩)
      have HUN : Hid (ua = none → (sgO5 z).length = 0 ∧ uc = 0) := hide (fun e => own_none (by rw [e] at ho; exact ho))
      have H2 := hide (HC.out.next hb)
      have CA := hide (appendOption_walk (u3) (LL) 5 ua (sgO5 z).length uc 2 (sgO5 z) (w.heap.size + 1) w2 H2.out.1 (by have := hb.size; omega) (HM4.out) (by have := HLn.out; omega) rfl (by rw [sgO5_len]; have := HZ.out; omega) hua (by omega) (by rw [sgO5_len]; have := HZ.out; omega) (by omega) (by omega) HUN.out HBA.out)
      clear hb HV ho hua
      go_wp2_with fail
      refine CA.out.mono ?_
      rintro e w3 ⟨r, rfl, ho3, hb3⟩
      have H3 := hide (H2.out.lo HAL.out hb3 ho3)
      clear hb3 ho3 CA
      go_wp2_with fail
      go_meet
      have e : sgO1 x6 ++ sgO2 x7 x8 ++ sgO3 x9 ++ sgO4 n0 ++ sgO5 z = LL ++ List.replicate 2 1 ++ [5, (((sgO5 z).length + 2 : Nat) : Int)] ++ sgO5 z := by
        have hl : (((sgO5 z).length + 2 : Nat) : Int) = 2 + 8 * (n0 : Int) := by rw [sgO5_len]; have := HZ.out; omega
        rw [← HLL.out, hl]; unfold sgO4; rw [if_neg HN0.out]; simp
      rw [e]; exact H3
  case rest =>
  have HC2 := hcut
  clear hcut HC
  go_wp2_with fail
  go_ret
  exact ⟨_, rfl, HC2.out.1.low (by omega), HC2.out.2.1⟩
end Go.Proofs.YthcmgnhfgplajaaDoor
