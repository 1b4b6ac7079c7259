/-
At every input the law FnNest of the landed program answers true, and its arguments read afterwards as before.
No conditions.
-/
import Derived.Test.YtmgjagajcmeikajRows
import Derived.WalkKit
import Derived.ProofKit
import Derived.OpenShut
import Derived.Test.YtmgjagajcmeikajDph
import Derived.Test.YtmgjagajcmeikajShw
import Derived.Test.YtmgjagajcmeikajRows
import Derived.ShutString
import Derived.ChangeOld
import Derived.Below
namespace Go.Proofs.Ytmgjagajcmeikaj
open Go.ChangeShapes Go.WideShapes Go.ChangeAt Go.RowKit
set_option linter.unusedVariables false
theorem seven_own (w : World) : (w.alloc (.cells #[.int .u8 7] 5)).ownsRow w.heap.size 5 1 (.slice (some ⟨w.heap.size, 0, none⟩) 1 1) 1 (bval [7]) :=
  World.ownsRow_lit (base := w.heap.size) (e := 5) (size := 1) w #[.int .u8 7] 1 (Nat.le_refl _) (by decide) rfl
theorem news_any {w : World} {ad : Addr} {zs : List Int} (h : Arr w (some ad) zs) : ∀ j u, (bval zs)[j]? = some u → w.cell? (ad.add j) = some u := by
  intro j u hu
  have hj : j < zs.length := by
    have := (List.getElem?_eq_some_iff.1 hu).1
    simpa [bval] using this
  obtain ⟨b', off', e, _, hc⟩ := h.2 j hj
  simp only [Option.some.injEq] at e
  subst e
  rw [bval_get zs j hj] at hu
  rw [Addr.add_lit, hc]; exact hu
set_option maxHeartbeats 8000000 in
set_option maxRecDepth 100000 in
theorem walkFnNest (a0 : Option Addr) (len0 cap0 : Nat) (z0 : List Int) (w : World) (w0 : IsRow .u8 w a0 len0 cap0 z0) :
    Calls Try.prog 3 #[.slice a0 len0 cap0] w fun e w' => e = .returned (.bool true) ∧ Below w.heap.size w w' := by
  have hcase : (a0 = none ∧ len0 = 0 ∧ cap0 = 0) ∨ ∃ ad, a0 = some ad := by
    rcases w0 with ⟨rfl, rfl, rfl, rfl⟩ | ⟨x, rfl, _⟩
    · exact .inl ⟨rfl, rfl, rfl⟩
    · exact .inr ⟨x, rfl⟩
  obtain ⟨ys, hn, ha⟩ := w0.arr
  have HN := hide hn
  have HA := hide ha
  clear hn ha w0
  obtain ⟨i, hi, hz0, hz1, hz2⟩ := info_parts Try.infoB
  have HI := hide hi
  have HZ0 := hide hz0
  have HZ1 := hide hz1
  have HZ2 := hide hz2
  clear hi hz0 hz1 hz2
  by_cases hbig : 1048576 < len0
  · clear hcase
    go_enter Try.func3, Try.ntmps3
    go_wp2
    go_ret
    exact ⟨rfl, Below.refl _ _⟩
  · have HC := hide hcase
    clear hcase
    go_enter Try.func3, Try.ntmps3
    go_wp2_with fail
    refine (drawPrefixHas_walk _ _ _ ys _ HN.out HA.out (by omega)).mono ?_
    rintro e w1 ⟨a, b, y, rfl, xa0, xa1, xb0, xb1, hb1⟩
    have hba := (Below.refl w1.heap.size w1).alloc (Nat.le_refl _) (.cells #[.int .i64 a, .int .i64 b] 24)
    obtain ⟨_, hc0, hc1⟩ := box_facts w1 (.int .i64 a) (.int .i64 b) 24
    have hsz1 : w1.heap.size < (w1.alloc (.cells #[.int .i64 a, .int .i64 b] 24)).heap.size := by rw [World.size_alloc]; omega
    have hB1 := hb1.trans (hba.mono hb1.size)
    have HA1 := hide ((HA.out.below hb1 (Nat.le_refl _)).below hba (Nat.le_refl _))
    clear hb1 hba
    have hE7 : ((w1.alloc (.cells #[.int .i64 a, .int .i64 b] 24)).alloc (.cells #[.int .u8 7] 5)).ownsRow (w1.heap.size + 1) 5 1 (.slice (some ⟨w1.heap.size + 1, 0, none⟩) 1 1) 1 (bval [7]) := by
      have h := seven_own (w1.alloc (.cells #[.int .i64 a, .int .i64 b] 24))
      rw [World.size_alloc] at h; exact h
    have HE7 := hide hE7
    clear hE7
    rcases HC.out with ⟨rfl, rfl, rfl⟩ | ⟨ad, rfl⟩
    · go_wp2_with fail
      have hb7 := (Below.refl (w1.alloc (.cells #[.int .i64 a, .int .i64 b] 24)).heap.size (w1.alloc (.cells #[.int .i64 a, .int .i64 b] 24))).alloc (Nat.le_refl _) (.cells #[.int .u8 7] 5)
      have hBW := hB1.trans (hb7.mono hB1.size)
      have hpW : w1.heap.size < ((w1.alloc (.cells #[.int .i64 a, .int .i64 b] 24)).alloc (.cells #[.int .u8 7] 5)).heap.size := by rw [World.size_alloc, World.size_alloc]; omega
      have hcW0 := (hb7.cell (p := ⟨w1.heap.size, 0, none⟩) hsz1).trans hc0
      have hcW1 := (hb7.cell (p := ⟨w1.heap.size, 1, none⟩) hsz1).trans hc1
      have HAr : Hid (Arr ((w1.alloc (.cells #[.int .i64 a, .int .i64 b] 24)).alloc (.cells #[.int .u8 7] 5)) (some ⟨w1.heap.size + 1, 0, none⟩) [7]) := hide (by
        have hO : OwnB ((w1.alloc (.cells #[.int .i64 a, .int .i64 b] 24)).alloc (.cells #[.int .u8 7] 5)) (w1.heap.size + 1) (.slice (some ⟨w1.heap.size + 1, 0, none⟩) 1 1) [7] := ⟨HE7.out, by simp⟩
        obtain ⟨a', c', e', h', _⟩ := hO.arr
        simp only [Value.slice.injEq] at e'
        rw [e'.1]; exact h')
      clear hb7
      generalize (w1.alloc (.cells #[.int .i64 a, .int .i64 b] 24)).alloc (.cells #[.int .u8 7] 5) = W at *
      clear hc0 hc1 hsz1 hB1 HE7 HA1
      refine (drawBroadcast_walk _ _ _ [7] _ rfl HAr.out (by decide)).mono ?_
      rintro e w3 ⟨c, d, rfl, xc0, xc1, xd0, xd1, hb3⟩
      obtain ⟨hbq, hq0, hq1⟩ := box_facts w3 (.int .i64 c) (.int .i64 d) 24
      have hsz3 : w3.heap.size < (w3.alloc (.cells #[.int .i64 c, .int .i64 d] 24)).heap.size := by rw [World.size_alloc]; omega
      have hp3 := Nat.lt_of_lt_of_le hpW hb3.size
      have hPQ : PQ w w1.heap.size w3.heap.size a b c d (w3.alloc (.cells #[.int .i64 c, .int .i64 d] 24)) := by
        refine ⟨(hBW.trans (hb3.mono hBW.size)).trans (hbq.mono (Nat.le_trans hBW.size hb3.size)), by omega, hsz3, ?_, ?_, hq0, hq1⟩
        · rw [hbq.cell (p := ⟨w1.heap.size, 0, none⟩) hp3, hb3.cell (p := ⟨w1.heap.size, 0, none⟩) hpW]; exact hcW0
        · rw [hbq.cell (p := ⟨w1.heap.size, 1, none⟩) hp3, hb3.cell (p := ⟨w1.heap.size, 1, none⟩) hpW]; exact hcW1
      have k3 : (w3.alloc (.cells #[.int .i64 c, .int .i64 d] 24)).cell? ⟨w1.heap.size, 0, none⟩ = some (.int .i64 a) := hPQ.2.2.2.1
      have k4 : (w3.alloc (.cells #[.int .i64 c, .int .i64 d] 24)).cell? ⟨w1.heap.size, 1, none⟩ = some (.int .i64 b) := hPQ.2.2.2.2.1
      have k5 : w3.cell? ⟨w1.heap.size, 0, none⟩ = some (.int .i64 a) := by rw [hb3.cell (p := ⟨w1.heap.size, 0, none⟩) hpW]; exact hcW0
      have k6 : w3.cell? ⟨w1.heap.size, 1, none⟩ = some (.int .i64 b) := by rw [hb3.cell (p := ⟨w1.heap.size, 1, none⟩) hpW]; exact hcW1
      clear hq0 hq1 hb3 hBW hcW0 hcW1 hbq
      have hne13 : w1.heap.size ≠ w3.heap.size := by omega
      go_wp2_with fail
      clear k3 k4 k5 k6
      generalize w3.alloc (.cells #[.int .i64 c, .int .i64 d] 24) = W3 at *
      generalize w1.heap.size = gp at *
      generalize w3.heap.size = gq at *
      obtain ⟨_, _, _, m0, m1, m2, m3⟩ := id hPQ
      by_cases hp : prefB a b = true
      · by_cases hq : prefB c d = true
        · have t1 := nest_first hp
          have t2 := nest_last hp
          have t3 := nest_behind hp
          have ec1 : spC a b = 0 := spC_yes hp
          have ec2 : spC c d = 0 := spC_yes hq
          have eP : -1 ≤ lastOf a b ∧ lastOf a b ≤ 4294967296 := by
            have := end_le hp; have := sz_pos b; obtain ⟨_, _, h3, _⟩ := prefB_iff.1 hp; have := adrB_iff.1 h3; rw [lastOf_yes hp]; omega
          by_cases hbd : b ≤ d
          · obtain ⟨f1, f2, f3⟩ := nest_wide hp hq hbd
            cases hin : hasB a b c
            · have g2 : hasB c d a = false := by
                cases hx : hasB c d a
                · rfl
                · rw [f2 hx] at hin; cases hin
              have g3 : hasB c d (lastOf a b) = false := by
                cases hx : hasB c d (lastOf a b)
                · rfl
                · rw [f3 hx] at hin; cases hin
              rw [hin] at f1
              clear f2 f3 hp hq
              go_wp2_with (first
                | (go_at_call 6; refine (specShowP_walk _ _ _).mono ?_; rintro e w' ⟨rfl, hb⟩; have hPQ := PQ.below (h := by assumption) hb; have hPQ2 := hPQ; obtain ⟨_, _, _, _, _, _, _⟩ := hPQ2)
                | (go_at_call 7; refine (has_walk _ _ _ _).mono ?_; rintro e w' ⟨rfl, hb⟩; have hPQ := PQ.below (h := by assumption) hb; have hPQ2 := hPQ; obtain ⟨_, _, _, _, _, _, _⟩ := hPQ2)
                | (go_at_call 8; refine (last_walk _ _ _).mono ?_; rintro e w' ⟨rfl, hb⟩; have hPQ := PQ.below (h := by assumption) hb; have hPQ2 := hPQ; obtain ⟨_, _, _, _, _, _, _⟩ := hPQ2)
                | (go_at_call 9; refine (specLast_walk _ _ _).mono ?_; rintro e w' ⟨rfl, hb⟩; have hPQ := PQ.below (h := by assumption) hb; have hPQ2 := hPQ; obtain ⟨_, _, _, _, _, _, _⟩ := hPQ2))
              go_ret
              exact ⟨rfl, hPQ.1⟩
            · rw [hin] at f1
              clear f2 f3 hp hq
              cases g2 : hasB c d a <;> cases g3 : hasB c d (lastOf a b)
              all_goals
                go_wp2_with (first
                  | (go_at_call 6; refine (specShowP_walk _ _ _).mono ?_; rintro e w' ⟨rfl, hb⟩; have hPQ := PQ.below (h := by assumption) hb; have hPQ2 := hPQ; obtain ⟨_, _, _, _, _, _, _⟩ := hPQ2)
                  | (go_at_call 7; refine (has_walk _ _ _ _).mono ?_; rintro e w' ⟨rfl, hb⟩; have hPQ := PQ.below (h := by assumption) hb; have hPQ2 := hPQ; obtain ⟨_, _, _, _, _, _, _⟩ := hPQ2)
                  | (go_at_call 8; refine (last_walk _ _ _).mono ?_; rintro e w' ⟨rfl, hb⟩; have hPQ := PQ.below (h := by assumption) hb; have hPQ2 := hPQ; obtain ⟨_, _, _, _, _, _, _⟩ := hPQ2)
                  | (go_at_call 9; refine (specLast_walk _ _ _).mono ?_; rintro e w' ⟨rfl, hb⟩; have hPQ := PQ.below (h := by assumption) hb; have hPQ2 := hPQ; obtain ⟨_, _, _, _, _, _, _⟩ := hPQ2))
                go_ret
                exact ⟨rfl, hPQ.1⟩
          · have hdb : d ≤ b := by omega
            obtain ⟨f1, f2, f3⟩ := nest_wide hq hp hdb
            have hbd' : ¬ b ≤ d := hbd
            cases hin : hasB c d a
            · have g2 : hasB a b c = false := by
                cases hx : hasB a b c
                · rfl
                · rw [f2 hx] at hin; cases hin
              have g3 : hasB a b (lastOf c d) = false := by
                cases hx : hasB a b (lastOf c d)
                · rfl
                · rw [f3 hx] at hin; cases hin
              rw [hin] at f1
              clear f2 f3 hp hq
              go_wp2_with (first
                | (go_at_call 6; refine (specShowP_walk _ _ _).mono ?_; rintro e w' ⟨rfl, hb⟩; have hPQ := PQ.below (h := by assumption) hb; have hPQ2 := hPQ; obtain ⟨_, _, _, _, _, _, _⟩ := hPQ2)
                | (go_at_call 7; refine (has_walk _ _ _ _).mono ?_; rintro e w' ⟨rfl, hb⟩; have hPQ := PQ.below (h := by assumption) hb; have hPQ2 := hPQ; obtain ⟨_, _, _, _, _, _, _⟩ := hPQ2)
                | (go_at_call 8; refine (last_walk _ _ _).mono ?_; rintro e w' ⟨rfl, hb⟩; have hPQ := PQ.below (h := by assumption) hb; have hPQ2 := hPQ; obtain ⟨_, _, _, _, _, _, _⟩ := hPQ2)
                | (go_at_call 9; refine (specLast_walk _ _ _).mono ?_; rintro e w' ⟨rfl, hb⟩; have hPQ := PQ.below (h := by assumption) hb; have hPQ2 := hPQ; obtain ⟨_, _, _, _, _, _, _⟩ := hPQ2))
              go_ret
              exact ⟨rfl, hPQ.1⟩
            · rw [hin] at f1
              clear f2 f3 hp hq
              cases g2 : hasB a b c <;> cases g3 : hasB a b (lastOf c d)
              all_goals
                go_wp2_with (first
                  | (go_at_call 6; refine (specShowP_walk _ _ _).mono ?_; rintro e w' ⟨rfl, hb⟩; have hPQ := PQ.below (h := by assumption) hb; have hPQ2 := hPQ; obtain ⟨_, _, _, _, _, _, _⟩ := hPQ2)
                  | (go_at_call 7; refine (has_walk _ _ _ _).mono ?_; rintro e w' ⟨rfl, hb⟩; have hPQ := PQ.below (h := by assumption) hb; have hPQ2 := hPQ; obtain ⟨_, _, _, _, _, _, _⟩ := hPQ2)
                  | (go_at_call 8; refine (last_walk _ _ _).mono ?_; rintro e w' ⟨rfl, hb⟩; have hPQ := PQ.below (h := by assumption) hb; have hPQ2 := hPQ; obtain ⟨_, _, _, _, _, _, _⟩ := hPQ2)
                  | (go_at_call 9; refine (specLast_walk _ _ _).mono ?_; rintro e w' ⟨rfl, hb⟩; have hPQ := PQ.below (h := by assumption) hb; have hPQ2 := hPQ; obtain ⟨_, _, _, _, _, _, _⟩ := hPQ2))
                go_ret
                exact ⟨rfl, hPQ.1⟩
        · have hq' : prefB c d = false := by simpa using hq
          have ec1 : spC a b = 0 := spC_yes hp
          have ec2 : spC c d = 1 := spC_no hq'
          have t1 : hasB c d c = false := hasB_no hq'
          have t2 : lastOf c d = -1 := lastOf_no hq'
          clear hp hq hq'
          go_wp2_with (first
            | (go_at_call 6; refine (specShowP_walk _ _ _).mono ?_; rintro e w' ⟨rfl, hb⟩; have hPQ := PQ.below (h := by assumption) hb; have hPQ2 := hPQ; obtain ⟨_, _, _, _, _, _, _⟩ := hPQ2)
            | (go_at_call 7; refine (has_walk _ _ _ _).mono ?_; rintro e w' ⟨rfl, hb⟩; have hPQ := PQ.below (h := by assumption) hb; have hPQ2 := hPQ; obtain ⟨_, _, _, _, _, _, _⟩ := hPQ2)
            | (go_at_call 8; refine (last_walk _ _ _).mono ?_; rintro e w' ⟨rfl, hb⟩; have hPQ := PQ.below (h := by assumption) hb; have hPQ2 := hPQ; obtain ⟨_, _, _, _, _, _, _⟩ := hPQ2)
            | (go_at_call 9; refine (specLast_walk _ _ _).mono ?_; rintro e w' ⟨rfl, hb⟩; have hPQ := PQ.below (h := by assumption) hb; have hPQ2 := hPQ; obtain ⟨_, _, _, _, _, _, _⟩ := hPQ2))
          go_ret
          exact ⟨rfl, hPQ.1⟩
      · have hp' : prefB a b = false := by simpa using hp
        have ec1 : spC a b = 1 := spC_no hp'
        have t1 : hasB a b a = false := hasB_no hp'
        have t2 : lastOf a b = -1 := lastOf_no hp'
        clear hp hp'
        go_wp2_with (first
          | (go_at_call 6; refine (specShowP_walk _ _ _).mono ?_; rintro e w' ⟨rfl, hb⟩; have hPQ := PQ.below (h := by assumption) hb; have hPQ2 := hPQ; obtain ⟨_, _, _, _, _, _, _⟩ := hPQ2)
          | (go_at_call 7; refine (has_walk _ _ _ _).mono ?_; rintro e w' ⟨rfl, hb⟩; have hPQ := PQ.below (h := by assumption) hb; have hPQ2 := hPQ; obtain ⟨_, _, _, _, _, _, _⟩ := hPQ2)
          | (go_at_call 8; refine (last_walk _ _ _).mono ?_; rintro e w' ⟨rfl, hb⟩; have hPQ := PQ.below (h := by assumption) hb; have hPQ2 := hPQ; obtain ⟨_, _, _, _, _, _, _⟩ := hPQ2)
          | (go_at_call 9; refine (specLast_walk _ _ _).mono ?_; rintro e w' ⟨rfl, hb⟩; have hPQ := PQ.below (h := by assumption) hb; have hPQ2 := hPQ; obtain ⟨_, _, _, _, _, _, _⟩ := hPQ2))
        go_ret
        exact ⟨rfl, hPQ.1⟩
    · go_wp2_with (first | (at_builtin; refine wpList_append_own _ rfl _ _ 22 rfl (w1.heap.size + 1) 5 i _ 1 1 Try.underlying22 HI.out HZ0.out HZ1.out HZ2.out rfl (by decide) (.slice (some ⟨w1.heap.size + 1, 0, none⟩) 1 1) 1 (bval [7]) rfl HE7.out ad len0 cap0 (bval ys) rfl (by simp [bval]; exact HN.out) (news_any (HA1.out.below ((Below.refl (w1.alloc (.cells #[.int .i64 a, .int .i64 b] 24)).heap.size (w1.alloc (.cells #[.int .i64 a, .int .i64 b] 24))).alloc (Nat.le_refl _) (.cells #[.int .u8 7] 5)) (Nat.le_refl _))) (oneCells _) (by unfold maxLen; omega) (by omega) (by rw [World.size_alloc, World.size_alloc]; omega) ?_))
      intro v2 w2 hown2 hgrow2 hnil2
      have hO2 := OwnB.app (xs := [7]) (ys := ys) hown2 (by rw [HN.out]; rfl) (by simp) HA.out.1
      have hb7 := (Below.refl (w1.alloc (.cells #[.int .i64 a, .int .i64 b] 24)).heap.size (w1.alloc (.cells #[.int .i64 a, .int .i64 b] 24))).alloc (Nat.le_refl _) (.cells #[.int .u8 7] 5)
      have hb7' : Below (w1.alloc (.cells #[.int .i64 a, .int .i64 b] 24)).heap.size (w1.alloc (.cells #[.int .i64 a, .int .i64 b] 24)) w2 := hb7.grown hgrow2 hb7.size (fun k hk => by cases hk; rw [World.size_alloc]; exact Nat.le_refl _)
      have hBW := hB1.trans (hb7'.mono hB1.size)
      have hpW : w1.heap.size < w2.heap.size := Nat.lt_of_lt_of_le hsz1 hb7'.size
      have hcW0 := (hb7'.cell (p := ⟨w1.heap.size, 0, none⟩) hsz1).trans hc0
      have hcW1 := (hb7'.cell (p := ⟨w1.heap.size, 1, none⟩) hsz1).trans hc1
      obtain ⟨a2, c2, rfl, harr2, _⟩ := hO2.arr
      have HAr := hide harr2
      have HL2 : Hid (([7] ++ ys).length ≤ 2097152) := hide (by rw [List.length_append, HN.out]; show 1 + len0 ≤ _; omega)
      clear hO2 harr2 hown2 hgrow2 hnil2 hb7 hb7' hc0 hc1 hsz1 hB1 HE7 HA1
      generalize hzz : [7] ++ ys = zz at *
      clear hzz
      go_wp2_with fail
      refine (drawBroadcast_walk _ _ _ zz _ rfl HAr.out HL2.out).mono ?_
      rintro e w3 ⟨c, d, rfl, xc0, xc1, xd0, xd1, hb3⟩
      obtain ⟨hbq, hq0, hq1⟩ := box_facts w3 (.int .i64 c) (.int .i64 d) 24
      have hsz3 : w3.heap.size < (w3.alloc (.cells #[.int .i64 c, .int .i64 d] 24)).heap.size := by rw [World.size_alloc]; omega
      have hp3 := Nat.lt_of_lt_of_le hpW hb3.size
      have hPQ : PQ w w1.heap.size w3.heap.size a b c d (w3.alloc (.cells #[.int .i64 c, .int .i64 d] 24)) := by
        refine ⟨(hBW.trans (hb3.mono hBW.size)).trans (hbq.mono (Nat.le_trans hBW.size hb3.size)), by omega, hsz3, ?_, ?_, hq0, hq1⟩
        · rw [hbq.cell (p := ⟨w1.heap.size, 0, none⟩) hp3, hb3.cell (p := ⟨w1.heap.size, 0, none⟩) hpW]; exact hcW0
        · rw [hbq.cell (p := ⟨w1.heap.size, 1, none⟩) hp3, hb3.cell (p := ⟨w1.heap.size, 1, none⟩) hpW]; exact hcW1
      have k3 : (w3.alloc (.cells #[.int .i64 c, .int .i64 d] 24)).cell? ⟨w1.heap.size, 0, none⟩ = some (.int .i64 a) := hPQ.2.2.2.1
      have k4 : (w3.alloc (.cells #[.int .i64 c, .int .i64 d] 24)).cell? ⟨w1.heap.size, 1, none⟩ = some (.int .i64 b) := hPQ.2.2.2.2.1
      have k5 : w3.cell? ⟨w1.heap.size, 0, none⟩ = some (.int .i64 a) := by rw [hb3.cell (p := ⟨w1.heap.size, 0, none⟩) hpW]; exact hcW0
      have k6 : w3.cell? ⟨w1.heap.size, 1, none⟩ = some (.int .i64 b) := by rw [hb3.cell (p := ⟨w1.heap.size, 1, none⟩) hpW]; exact hcW1
      clear hq0 hq1 hb3 hBW hcW0 hcW1 hbq
      have hne13 : w1.heap.size ≠ w3.heap.size := by omega
      go_wp2_with fail
      clear k3 k4 k5 k6
      generalize w3.alloc (.cells #[.int .i64 c, .int .i64 d] 24) = W3 at *
      generalize w1.heap.size = gp at *
      generalize w3.heap.size = gq at *
      obtain ⟨_, _, _, m0, m1, m2, m3⟩ := id hPQ
      by_cases hp : prefB a b = true
      · by_cases hq : prefB c d = true
        · have t1 := nest_first hp
          have t2 := nest_last hp
          have t3 := nest_behind hp
          have ec1 : spC a b = 0 := spC_yes hp
          have ec2 : spC c d = 0 := spC_yes hq
          have eP : -1 ≤ lastOf a b ∧ lastOf a b ≤ 4294967296 := by
            have := end_le hp; have := sz_pos b; obtain ⟨_, _, h3, _⟩ := prefB_iff.1 hp; have := adrB_iff.1 h3; rw [lastOf_yes hp]; omega
          by_cases hbd : b ≤ d
          · obtain ⟨f1, f2, f3⟩ := nest_wide hp hq hbd
            cases hin : hasB a b c
            · have g2 : hasB c d a = false := by
                cases hx : hasB c d a
                · rfl
                · rw [f2 hx] at hin; cases hin
              have g3 : hasB c d (lastOf a b) = false := by
                cases hx : hasB c d (lastOf a b)
                · rfl
                · rw [f3 hx] at hin; cases hin
              rw [hin] at f1
              clear f2 f3 hp hq
              go_wp2_with (first
                | (go_at_call 6; refine (specShowP_walk _ _ _).mono ?_; rintro e w' ⟨rfl, hb⟩; have hPQ := PQ.below (h := by assumption) hb; have hPQ2 := hPQ; obtain ⟨_, _, _, _, _, _, _⟩ := hPQ2)
                | (go_at_call 7; refine (has_walk _ _ _ _).mono ?_; rintro e w' ⟨rfl, hb⟩; have hPQ := PQ.below (h := by assumption) hb; have hPQ2 := hPQ; obtain ⟨_, _, _, _, _, _, _⟩ := hPQ2)
                | (go_at_call 8; refine (last_walk _ _ _).mono ?_; rintro e w' ⟨rfl, hb⟩; have hPQ := PQ.below (h := by assumption) hb; have hPQ2 := hPQ; obtain ⟨_, _, _, _, _, _, _⟩ := hPQ2)
                | (go_at_call 9; refine (specLast_walk _ _ _).mono ?_; rintro e w' ⟨rfl, hb⟩; have hPQ := PQ.below (h := by assumption) hb; have hPQ2 := hPQ; obtain ⟨_, _, _, _, _, _, _⟩ := hPQ2))
              go_ret
              exact ⟨rfl, hPQ.1⟩
            · rw [hin] at f1
              clear f2 f3 hp hq
              cases g2 : hasB c d a <;> cases g3 : hasB c d (lastOf a b)
              all_goals
                go_wp2_with (first
                  | (go_at_call 6; refine (specShowP_walk _ _ _).mono ?_; rintro e w' ⟨rfl, hb⟩; have hPQ := PQ.below (h := by assumption) hb; have hPQ2 := hPQ; obtain ⟨_, _, _, _, _, _, _⟩ := hPQ2)
                  | (go_at_call 7; refine (has_walk _ _ _ _).mono ?_; rintro e w' ⟨rfl, hb⟩; have hPQ := PQ.below (h := by assumption) hb; have hPQ2 := hPQ; obtain ⟨_, _, _, _, _, _, _⟩ := hPQ2)
                  | (go_at_call 8; refine (last_walk _ _ _).mono ?_; rintro e w' ⟨rfl, hb⟩; have hPQ := PQ.below (h := by assumption) hb; have hPQ2 := hPQ; obtain ⟨_, _, _, _, _, _, _⟩ := hPQ2)
                  | (go_at_call 9; refine (specLast_walk _ _ _).mono ?_; rintro e w' ⟨rfl, hb⟩; have hPQ := PQ.below (h := by assumption) hb; have hPQ2 := hPQ; obtain ⟨_, _, _, _, _, _, _⟩ := hPQ2))
                go_ret
                exact ⟨rfl, hPQ.1⟩
          · have hdb : d ≤ b := by omega
            obtain ⟨f1, f2, f3⟩ := nest_wide hq hp hdb
            have hbd' : ¬ b ≤ d := hbd
            cases hin : hasB c d a
            · have g2 : hasB a b c = false := by
                cases hx : hasB a b c
                · rfl
                · rw [f2 hx] at hin; cases hin
              have g3 : hasB a b (lastOf c d) = false := by
                cases hx : hasB a b (lastOf c d)
                · rfl
                · rw [f3 hx] at hin; cases hin
              rw [hin] at f1
              clear f2 f3 hp hq
              go_wp2_with (first
                | (go_at_call 6; refine (specShowP_walk _ _ _).mono ?_; rintro e w' ⟨rfl, hb⟩; have hPQ := PQ.below (h := by assumption) hb; have hPQ2 := hPQ; obtain ⟨_, _, _, _, _, _, _⟩ := hPQ2)
                | (go_at_call 7; refine (has_walk _ _ _ _).mono ?_; rintro e w' ⟨rfl, hb⟩; have hPQ := PQ.below (h := by assumption) hb; have hPQ2 := hPQ; obtain ⟨_, _, _, _, _, _, _⟩ := hPQ2)
                | (go_at_call 8; refine (last_walk _ _ _).mono ?_; rintro e w' ⟨rfl, hb⟩; have hPQ := PQ.below (h := by assumption) hb; have hPQ2 := hPQ; obtain ⟨_, _, _, _, _, _, _⟩ := hPQ2)
                | (go_at_call 9; refine (specLast_walk _ _ _).mono ?_; rintro e w' ⟨rfl, hb⟩; have hPQ := PQ.below (h := by assumption) hb; have hPQ2 := hPQ; obtain ⟨_, _, _, _, _, _, _⟩ := hPQ2))
              go_ret
              exact ⟨rfl, hPQ.1⟩
            · rw [hin] at f1
              clear f2 f3 hp hq
              cases g2 : hasB a b c <;> cases g3 : hasB a b (lastOf c d)
              all_goals
                go_wp2_with (first
                  | (go_at_call 6; refine (specShowP_walk _ _ _).mono ?_; rintro e w' ⟨rfl, hb⟩; have hPQ := PQ.below (h := by assumption) hb; have hPQ2 := hPQ; obtain ⟨_, _, _, _, _, _, _⟩ := hPQ2)
                  | (go_at_call 7; refine (has_walk _ _ _ _).mono ?_; rintro e w' ⟨rfl, hb⟩; have hPQ := PQ.below (h := by assumption) hb; have hPQ2 := hPQ; obtain ⟨_, _, _, _, _, _, _⟩ := hPQ2)
                  | (go_at_call 8; refine (last_walk _ _ _).mono ?_; rintro e w' ⟨rfl, hb⟩; have hPQ := PQ.below (h := by assumption) hb; have hPQ2 := hPQ; obtain ⟨_, _, _, _, _, _, _⟩ := hPQ2)
                  | (go_at_call 9; refine (specLast_walk _ _ _).mono ?_; rintro e w' ⟨rfl, hb⟩; have hPQ := PQ.below (h := by assumption) hb; have hPQ2 := hPQ; obtain ⟨_, _, _, _, _, _, _⟩ := hPQ2))
                go_ret
                exact ⟨rfl, hPQ.1⟩
        · have hq' : prefB c d = false := by simpa using hq
          have ec1 : spC a b = 0 := spC_yes hp
          have ec2 : spC c d = 1 := spC_no hq'
          have t1 : hasB c d c = false := hasB_no hq'
          have t2 : lastOf c d = -1 := lastOf_no hq'
          clear hp hq hq'
          go_wp2_with (first
            | (go_at_call 6; refine (specShowP_walk _ _ _).mono ?_; rintro e w' ⟨rfl, hb⟩; have hPQ := PQ.below (h := by assumption) hb; have hPQ2 := hPQ; obtain ⟨_, _, _, _, _, _, _⟩ := hPQ2)
            | (go_at_call 7; refine (has_walk _ _ _ _).mono ?_; rintro e w' ⟨rfl, hb⟩; have hPQ := PQ.below (h := by assumption) hb; have hPQ2 := hPQ; obtain ⟨_, _, _, _, _, _, _⟩ := hPQ2)
            | (go_at_call 8; refine (last_walk _ _ _).mono ?_; rintro e w' ⟨rfl, hb⟩; have hPQ := PQ.below (h := by assumption) hb; have hPQ2 := hPQ; obtain ⟨_, _, _, _, _, _, _⟩ := hPQ2)
            | (go_at_call 9; refine (specLast_walk _ _ _).mono ?_; rintro e w' ⟨rfl, hb⟩; have hPQ := PQ.below (h := by assumption) hb; have hPQ2 := hPQ; obtain ⟨_, _, _, _, _, _, _⟩ := hPQ2))
          go_ret
          exact ⟨rfl, hPQ.1⟩
      · have hp' : prefB a b = false := by simpa using hp
        have ec1 : spC a b = 1 := spC_no hp'
        have t1 : hasB a b a = false := hasB_no hp'
        have t2 : lastOf a b = -1 := lastOf_no hp'
        clear hp hp'
        go_wp2_with (first
          | (go_at_call 6; refine (specShowP_walk _ _ _).mono ?_; rintro e w' ⟨rfl, hb⟩; have hPQ := PQ.below (h := by assumption) hb; have hPQ2 := hPQ; obtain ⟨_, _, _, _, _, _, _⟩ := hPQ2)
          | (go_at_call 7; refine (has_walk _ _ _ _).mono ?_; rintro e w' ⟨rfl, hb⟩; have hPQ := PQ.below (h := by assumption) hb; have hPQ2 := hPQ; obtain ⟨_, _, _, _, _, _, _⟩ := hPQ2)
          | (go_at_call 8; refine (last_walk _ _ _).mono ?_; rintro e w' ⟨rfl, hb⟩; have hPQ := PQ.below (h := by assumption) hb; have hPQ2 := hPQ; obtain ⟨_, _, _, _, _, _, _⟩ := hPQ2)
          | (go_at_call 9; refine (specLast_walk _ _ _).mono ?_; rintro e w' ⟨rfl, hb⟩; have hPQ := PQ.below (h := by assumption) hb; have hPQ2 := hPQ; obtain ⟨_, _, _, _, _, _, _⟩ := hPQ2))
        go_ret
        exact ⟨rfl, hPQ.1⟩

open Go.ChangeMaps (open_string shut_string)
theorem own : ownKnob Try.prog.godebug = none := by kernel_rfl
theorem laidOut : laidOutB Try.prog = true := by kernel_rfl

set_option maxRecDepth 100000 in
theorem fnNest_lifted (os : Os) (started : os.Started) (H : Type) (enc : TypeId × Value → H) :
    ReturnsInHanded {} Try.checked os 3 .any (Rows.fnNestSpec.pre6 enc Try.prog Try.f3 Rows.fnNestRow.domain false) (Rows.fnNestSpec.post enc Try.prog Try.f3 false true false false) := by
  refine returnsInHanded_of_change (C := Try.checked) own started (by kernel_rfl) Try.func3
    (ChangeSpec.witness6 (enc := enc) (C := Try.checked) false ⟨#[], #[.slice none 0 0], []⟩ 8 (by kernel_rfl) (by kernel_rfl) (by kernel_rfl) (by kernel_rfl)) ?_
  intro W base args ds gs before hval0 hW hcnd _
  have hval : ∀ (j : Nat) t v, Try.f3.params[j]? = some t → args[j]? = some v → Value.okWide Try.prog W .any base t v := hval0
  have hW' := hW
  obtain ⟨p, q, hA0, hV, rfl, hfz, hnd⟩ := hW
  have hA : DataW.TrodAll enc Try.prog W 0 (fun _ => true) true Try.f3.params.toList args.toList ds p := hA0
  rw [Try.params3] at hA hval
  obtain ⟨v0, vs0, d0, ds0, p0, q0, hargs, rfl, rfl, h0, r0⟩ := trodAll_cons hA
  obtain ⟨rfl, rfl, rfl⟩ := trodAll_nil r0
  obtain rfl : args = #[v0] := by cases args; simp_all
  obtain ⟨rfl, rfl⟩ := trodVars_none hV
  obtain ⟨a0, len0, cap0, rfl⟩ := okWide_slice Try.underlying22 (hval 0 22 v0 rfl rfl)
  have k0 := h0
  have lt0 : ∀ x ∈ p0, x.block < W.heap.size := by obtain ⟨m, hm⟩ := k0; exact DataW.trod_lt m _ _ _ hm
  obtain ⟨z0, w0⟩ : ∃ zs, IsRow .u8 W a0 len0 cap0 zs := by
    obtain ⟨fuel, hf⟩ := h0
    rcases open_ints Try.underlying22 Try.underlying5 (by kernel_rfl) hf with ⟨hcs, _⟩ | ⟨x, l, c, zs, hcs, _, hl, hm, hz, _, hcell, hwz⟩
    · simp [Value.cells] at hcs
      obtain ⟨rfl, rfl, rfl⟩ := hcs
      exact ⟨[], .inl ⟨rfl, rfl, rfl, rfl⟩⟩
    · simp [Value.cells] at hcs
      obtain ⟨rfl, rfl, rfl⟩ := hcs
      exact ⟨zs, .inr ⟨_, rfl, hl, hm, by simpa using hz, hcell, hwz⟩⟩
  clear hA0 hval0
  refine (walkFnNest a0 len0 cap0 z0 W w0).mono fun e W' ⟨he, bel⟩ => ?_
  subst he
  exact ⟨_, rfl, _, _, _, [], _, [], hW', trodAll_mk1 (shut_bool Try.underlying4 _), (trodAll_cons_mk (Below.trod laidOut (by kernel_rfl) (of_decide_eq_true (by kernel_rfl)) k0 bel lt0) trodAll_mk0), rfl, bel.frame _, fun h => by cases h⟩

theorem fnNest_over : Rows.fnNestRow.holds Try.pinned (OpenSpec.ofChange Rows.fnNestSpec) :=
  OpenClaim.holds_of_wide 3 Try.f3 rfl rfl rfl rfl rfl rfl rfl ⟨rfl, rfl, rfl, rfl, rfl⟩ rfl rfl rfl rfl rfl (by kernel_rfl) Try.func3 (by kernel_rfl)
    (of_decide_eq_true (by kernel_rfl)) (by unfold Func.isWrapper; first | (rw [if_pos (by decide +kernel)]; kernel_rfl) | (rw [if_neg (by decide +kernel)]; exact ⟨rfl, rfl⟩))
    (fun os started H enc _ => fnNest_lifted os started H enc)

theorem fnNest_holds : Rows.FnNestSaid := fnNest_over
end Go.Proofs.Ytmgjagajcmeikaj
