/-
At every input the law FnSeq of the landed program answers true, and its arguments read afterwards as before.
No conditions.
-/
import Derived.Test.YtmgjagajcmeikaeRows
import Derived.WalkKit
import Derived.ProofKit
import Derived.OpenShut
import Derived.Test.YtmgjagajcmeikaeDraw
import Derived.Test.YtmgjagajcmeikaeRows
import Derived.ShutString
import Derived.ChangeOld
import Derived.Below
namespace Go.Proofs.Ytmgjagajcmeikae
open Go.ChangeShapes Go.WideShapes Go.ChangeAt Go.RowKit
set_option linter.unusedVariables false
/-- What the walk is told of a slice of integers that came in: nil, or a row of 'cap' cells, the first 'len' of them its elements. -/
def IsRow (k : IntKind) (w : World) (a : Option Addr) (len cap : Nat) (zs : List Int) : Prop :=
  (a = none ∧ len = 0 ∧ cap = 0 ∧ zs = []) ∨
  ∃ x, a = some x ∧ len ≤ cap ∧ cap ≤ maxLen ∧ zs.length = cap ∧ (∀ i, i < zs.length → w.cell? (x.add i) = some (.int k (zs.getD i 0))) ∧ ∀ n ∈ zs, (Lit.int k n).wf = true
theorem cell_lt {w : World} {b o : Nat} {v : Value} (h : w.cell? ⟨b, o, none⟩ = some v) : b < w.heap.size := by
  by_cases hb : b < w.heap.size
  · exact hb
  · exfalso
    unfold World.cell? at h
    simp [Array.getElem?_eq_none (Nat.le_of_not_lt hb)] at h
theorem IsRow.arr {w : World} {a : Option Addr} {len cap : Nat} {zs : List Int} (h : IsRow .u8 w a len cap zs) : ∃ ys : List Int, ys.length = len ∧ Arr w a ys := by
  rcases h with ⟨rfl, rfl, rfl, rfl⟩ | ⟨x, rfl, hl, hm, hz, hcell, hwz⟩
  · exact ⟨[], rfl, by simp, fun j hj => by simp at hj⟩
  · refine ⟨zs.take len, by simp; omega, ?_, ?_⟩
    · intro z hz'
      have := hwz z (List.mem_of_mem_take hz')
      simpa [Lit.wf, IntKind.min, IntKind.max, IntKind.signed, IntKind.bits] using this
    · intro j hj
      have hj' : j < len := by simp at hj; omega
      obtain ⟨b, off, rfl, hc⟩ := ints_at hcell (by omega)
      have h1 := hc j (by omega)
      refine ⟨b, off, rfl, cell_lt h1, ?_⟩
      rw [h1, List.getD_eq_getElem?_getD, List.getD_eq_getElem?_getD, List.getElem?_take, if_pos hj']

/-- How far b is from a, modulo 2^32, from -2^31 on. -/
def dif (a b : Int) : Int := if (b - a) % 4294967296 ≥ 2147483648 then (b - a) % 4294967296 - 4294967296 else (b - a) % 4294967296
theorem dif_eq (a0 a1 : Int) : wrap64 (wrap32 ((a1 - a0) % 4294967296)) = dif a0 a1 := by
  unfold wrap64 wrap32 dif; split <;> omega
theorem dif_bd (a b : Int) : -2147483648 ≤ dif a b ∧ dif a b ≤ 2147483647 := by unfold dif; split <;> omega

theorem add_walk (a0 a1 : Int) (w : World) :
    Calls Try.prog 14 #[.int .i64 a0, .int .i64 a1] w fun e w' => e = .returned (.int .i64 ((a0 + a1) % 4294967296)) ∧ w' = w := by
  go_enter Try.func14, Try.ntmps14
  go_wp2
  go_ret
  exact ⟨rfl, rfl⟩

theorem diff_walk (a0 a1 : Int) (w : World) :
    Calls Try.prog 15 #[.int .i64 a0, .int .i64 a1] w fun e w' => e = .returned (.int .i64 (dif a0 a1)) ∧ w' = w := by
  go_enter Try.func15, Try.ntmps15
  go_wp2
  go_ret
  exact ⟨ret_int (dif_eq _ _), rfl⟩

theorem less_walk (a0 a1 : Int) (w : World) :
    Calls Try.prog 16 #[.int .i64 a0, .int .i64 a1] w fun e w' => e = .returned (.bool (decide (0 < dif a0 a1))) ∧ w' = w := by
  go_enter Try.func16, Try.ntmps16
  go_wp2_with (go_at_call 15; refine (diff_walk _ _ _).mono ?_; rintro e w' ⟨rfl, rfl⟩)
  go_ret
  exact ⟨rfl, rfl⟩

theorem leq_walk (a0 a1 : Int) (w : World) :
    Calls Try.prog 17 #[.int .i64 a0, .int .i64 a1] w fun e w' => e = .returned (.bool (decide (0 ≤ dif a0 a1))) ∧ w' = w := by
  go_enter Try.func17, Try.ntmps17
  go_wp2_with (go_at_call 15; refine (diff_walk _ _ _).mono ?_; rintro e w' ⟨rfl, rfl⟩)
  go_ret
  exact ⟨rfl, rfl⟩

theorem in_walk (a0 a1 a2 : Int) (w : World) :
    Calls Try.prog 18 #[.int .i64 a0, .int .i64 a1, .int .i64 a2] w fun e w' => e = .returned (.bool (decide ((a0 - a1) % 4294967296 < a2))) ∧ w' = w := by
  go_enter Try.func18, Try.ntmps18
  go_wp2
  go_ret
  exact ⟨rfl, rfl⟩

theorem dif_add (a d : Int) (h0 : -2147483648 ≤ d) (h1 : d ≤ 2147483647) : dif a ((a + d) % 4294967296) = d := by
  unfold dif; split <;> omega
theorem away_eq (a d : Int) (h0 : -2147483648 ≤ d) (h1 : d ≤ 2147483647) : ((a + d) % 4294967296 - a) % 4294967296 = if d < 0 then d + 4294967296 else d := by
  split <;> omega
theorem back_eq (a d : Int) (ha : 0 ≤ a) (ha1 : a ≤ 4294967295) : ((a + d) % 4294967296 + -d) % 4294967296 = a := by omega

set_option maxHeartbeats 4000000 in
theorem walkFnSeq (a0 : Option Addr) (len0 cap0 : Nat) (z0 : List Int) (w : World) (w0 : IsRow .u8 w a0 len0 cap0 z0) :
    Calls Try.prog 5 #[.slice a0 len0 cap0] w fun e w' => e = .returned (.bool true) ∧ Below w.heap.size w w' := by
  obtain ⟨ys, hn, ha⟩ := w0.arr
  have HN := hide hn
  have HA := hide ha
  clear hn ha w0
  by_cases hbig : 1048576 < len0
  · go_enter Try.func5, Try.ntmps5
    go_wp2
    go_ret
    exact ⟨rfl, Below.refl _ _⟩
  · have hyl : ys.length ≤ 2097152 := by rw [HN.out]; omega
    go_enter Try.func5, Try.ntmps5
    go_wp2_with fail
    refine (lwBegin_walk _ _ _ _ ys _ HN.out HA.out (by omega) (by omega) (by omega)).mono ?_
    rintro e w1 ⟨st, rfl, hs0, hs1, hb1⟩
    have HS := hide (src_new (t := 33) (cap := cap0) HN.out (HA.out.below hb1 (Nat.le_refl _)) hs0 hs1)
    go_wp2_with fail
    have hba := (Below.refl w1.heap.size w1).alloc (Nat.le_refl _) (.cells #[.slice a0 len0 cap0, .int .i64 0, .int .u64 st] 33)
    have HA2 := hide ((HA.out.below hb1 (Nat.le_refl _)).below hba (Nat.le_refl _))
    generalize w1.alloc (.cells #[.slice a0 len0 cap0, .int .i64 0, .int .u64 st] 33) = W1 at *
    refine (drawSeqAdd_walk _ _ _ ys _ HN.out HA2.out (by omega)).mono ?_
    rintro e w2 ⟨x, y, rfl, x0, x1, y0, y1, hb2⟩
    have HS2 := hide (HS.out.below hb2 (Nat.le_refl _))
    have hbel := hb1.trans ((hba.mono hb1.size).trans (hb2.mono (Nat.le_trans hb1.size hba.size)))
    have hg : w.heap.size ≤ w1.heap.size := hb1.size
    clear hb1 hba hb2 HA2 HS y0 y1
    go_wp2_with fail
    refine (lwNext_walk _ _ ys _ HS2.out (by omega) (by omega) hyl).mono ?_
    rintro e w3 ⟨r3, rfl, p3, q3, hg3, hs3⟩
    have HS3 := hide hs3
    clear hs3 HS2
    go_wp2_with fail
    refine (lwNext_walk _ _ ys _ HS3.out (by omega) (by omega) hyl).mono ?_
    rintro e w4 ⟨r4, rfl, p4, q4, hg4, hs4⟩
    have HS4 := hide hs4
    clear hs4 HS3
    go_wp2_with fail
    refine (lwNext_walk _ _ ys _ HS4.out (by omega) (by omega) hyl).mono ?_
    rintro e w5 ⟨r5, rfl, p5, q5, hg5, hs5⟩
    have HS5 := hide hs5
    clear hs5 HS4
    have hb5 : Below w.heap.size w w5 := hbel.trans ((Below.refl _ _).grown (grown_trans (grown_trans hg3 hg4) hg5) hbel.size (fun k hk => by cases hk; exact hg))
    clear hbel hg3 hg4 hg5
    by_cases h5 : r5 = 0
    · subst h5
      go_wp2_with fail
      refine (lwNext_walk _ _ ys _ HS5.out (by omega) (by omega) hyl).mono ?_
      rintro e w9 ⟨r6, rfl, p6, q6, hg6, hs6⟩
      have hb9 : Below w.heap.size w w9 := hb5.trans ((Below.refl _ _).grown hg6 hb5.size (fun k hk => by cases hk; exact hg))
      clear HS5 hb5 hg6
      have HS5 := hide hs6
      have hb5 := hb9
      clear hs6 hb9
      have hdd : r6 - 4 ≤ 2147483647 := by omega
      go_wp2_with fail
      generalize hd0 : r6 - 4 = d at *
      have D0 := hide hd0
      have d0' : -2147483648 ≤ d := by omega
      clear hd0
      have d0 : -2147483648 ≤ d := by omega
      have d1 : d ≤ 2147483647 := by omega
      refine (add_walk x d _).mono ?_
      rintro e w6 ⟨rfl, rfl⟩
      have cD : ∀ w, Calls Try.prog 15 #[.int .i64 x, .int .i64 ((x + d) % 4294967296)] w fun e w' => e = .returned (.int .i64 d) ∧ w' = w := fun w => by
        have h := diff_walk x ((x + d) % 4294967296) w
        rw [dif_add x d d0 d1] at h; exact h
      have cL : ∀ w, Calls Try.prog 16 #[.int .i64 x, .int .i64 ((x + d) % 4294967296)] w fun e w' => e = .returned (.bool (decide (0 < d))) ∧ w' = w := fun w => by
        have h := less_walk x ((x + d) % 4294967296) w
        rw [dif_add x d d0 d1] at h; exact h
      have cQ : ∀ w, Calls Try.prog 17 #[.int .i64 x, .int .i64 ((x + d) % 4294967296)] w fun e w' => e = .returned (.bool (decide (0 ≤ d))) ∧ w' = w := fun w => by
        have h := leq_walk x ((x + d) % 4294967296) w
        rw [dif_add x d d0 d1] at h; exact h
      have cW : ∀ n w, Calls Try.prog 18 #[.int .i64 ((x + d) % 4294967296), .int .i64 x, .int .i64 n] w fun e w' => e = .returned (.bool (decide ((if d < 0 then d + 4294967296 else d) < n))) ∧ w' = w := fun n w => by
        have h := in_walk ((x + d) % 4294967296) x n w
        rw [away_eq x d d0 d1] at h; exact h
      have cB : ∀ w, Calls Try.prog 14 #[.int .i64 ((x + d) % 4294967296), .int .i64 (-d)] w fun e w' => e = .returned (.int .i64 x) ∧ w' = w := fun w => by
        have h := add_walk ((x + d) % 4294967296) (-d) w
        rw [back_eq x d x0 x1] at h; exact h
      have hbb0 : 0 ≤ (x + d) % 4294967296 := by omega
      have hbb1 : (x + d) % 4294967296 < 4294967296 := by omega
      generalize (x + d) % 4294967296 = b at *
      have CD := hide cD
      have CL := hide cL
      have CQ := hide cQ
      have CW := hide cW
      have CB := hide cB
      clear cD cL cQ cW cB
      go_wp2_with fail
      refine (lwNext_walk _ _ ys _ HS5.out (by omega) (by omega) hyl).mono ?_
      rintro e w7 ⟨r7, rfl, p7, q7, hg7, hs7⟩
      have HS7 := hide hs7
      clear hs7 HS5
      go_wp2_with fail
      refine (lwNext_walk _ _ ys _ HS7.out (by omega) (by omega) hyl).mono ?_
      rintro e w8 ⟨r8, rfl, p8, q8, hg8, hs8⟩
      clear hs8 HS7
      have hb8 : Below w.heap.size w w8 := hb5.trans ((Below.refl _ _).grown (grown_trans hg7 hg8) hb5.size (fun k hk => by cases hk; exact hg))
      clear hb5 hg7 hg8
      by_cases h8 : r8 = 0
      · subst h8
        by_cases hd : d < 0
        · have CW0 : Hid (∀ n w, Calls Try.prog 18 #[.int .i64 b, .int .i64 x, .int .i64 n] w fun e w' => e = .returned (.bool (decide (d + 4294967296 < n))) ∧ w' = w) := hide (fun n w => by have h := CW.out n w; rw [if_pos hd] at h; exact h)
          clear CW
          go_wp2_with (first
            | (go_at_call 15; refine (CD.out _).mono ?_; rintro e w' ⟨rfl, rfl⟩)
            | (go_at_call 16; refine (CL.out _).mono ?_; rintro e w' ⟨rfl, rfl⟩)
            | (go_at_call 17; refine (CQ.out _).mono ?_; rintro e w' ⟨rfl, rfl⟩)
            | (go_at_call 18; refine (CW0.out _ _).mono ?_; rintro e w' ⟨rfl, rfl⟩)
            | (go_at_call 14; refine (CB.out _).mono ?_; rintro e w' ⟨rfl, rfl⟩))
          go_ret
          exact ⟨rfl, hb8⟩
        · have CW0 : Hid (∀ n w, Calls Try.prog 18 #[.int .i64 b, .int .i64 x, .int .i64 n] w fun e w' => e = .returned (.bool (decide (d < n))) ∧ w' = w) := hide (fun n w => by have h := CW.out n w; rw [if_neg hd] at h; exact h)
          clear CW
          go_wp2_with (first
            | (go_at_call 15; refine (CD.out _).mono ?_; rintro e w' ⟨rfl, rfl⟩)
            | (go_at_call 16; refine (CL.out _).mono ?_; rintro e w' ⟨rfl, rfl⟩)
            | (go_at_call 17; refine (CQ.out _).mono ?_; rintro e w' ⟨rfl, rfl⟩)
            | (go_at_call 18; refine (CW0.out _ _).mono ?_; rintro e w' ⟨rfl, rfl⟩)
            | (go_at_call 14; refine (CB.out _).mono ?_; rintro e w' ⟨rfl, rfl⟩))
          go_ret
          exact ⟨rfl, hb8⟩
      · have h8' : (r8 == 0) = false := by rw [beq_eq_false_iff_ne]; exact h8
        clear h8
        by_cases hd : d < 0
        · have CW0 : Hid (∀ n w, Calls Try.prog 18 #[.int .i64 b, .int .i64 x, .int .i64 n] w fun e w' => e = .returned (.bool (decide (d + 4294967296 < n))) ∧ w' = w) := hide (fun n w => by have h := CW.out n w; rw [if_pos hd] at h; exact h)
          clear CW
          go_wp2_with (first
            | (go_at_call 15; refine (CD.out _).mono ?_; rintro e w' ⟨rfl, rfl⟩)
            | (go_at_call 16; refine (CL.out _).mono ?_; rintro e w' ⟨rfl, rfl⟩)
            | (go_at_call 17; refine (CQ.out _).mono ?_; rintro e w' ⟨rfl, rfl⟩)
            | (go_at_call 18; refine (CW0.out _ _).mono ?_; rintro e w' ⟨rfl, rfl⟩)
            | (go_at_call 14; refine (CB.out _).mono ?_; rintro e w' ⟨rfl, rfl⟩))
          go_ret
          exact ⟨rfl, hb8⟩
        · have CW0 : Hid (∀ n w, Calls Try.prog 18 #[.int .i64 b, .int .i64 x, .int .i64 n] w fun e w' => e = .returned (.bool (decide (d < n))) ∧ w' = w) := hide (fun n w => by have h := CW.out n w; rw [if_neg hd] at h; exact h)
          clear CW
          go_wp2_with (first
            | (go_at_call 15; refine (CD.out _).mono ?_; rintro e w' ⟨rfl, rfl⟩)
            | (go_at_call 16; refine (CL.out _).mono ?_; rintro e w' ⟨rfl, rfl⟩)
            | (go_at_call 17; refine (CQ.out _).mono ?_; rintro e w' ⟨rfl, rfl⟩)
            | (go_at_call 18; refine (CW0.out _ _).mono ?_; rintro e w' ⟨rfl, rfl⟩)
            | (go_at_call 14; refine (CB.out _).mono ?_; rintro e w' ⟨rfl, rfl⟩))
          go_ret
          exact ⟨rfl, hb8⟩
    · have h5' : (r5 == 0) = false := by rw [beq_eq_false_iff_ne]; exact h5
      clear h5
      have hdd : r3 * 2 - 2147483648 + r4 ≤ 2147483647 := by omega
      go_wp2_with fail
      generalize hd0 : r3 * 2 - 2147483648 + r4 = d at *
      have d0' : -2147483648 ≤ d := by omega
      have D0 := hide hd0
      clear hd0
      have d0 : -2147483648 ≤ d := by omega
      have d1 : d ≤ 2147483647 := by omega
      refine (add_walk x d _).mono ?_
      rintro e w6 ⟨rfl, rfl⟩
      have cD : ∀ w, Calls Try.prog 15 #[.int .i64 x, .int .i64 ((x + d) % 4294967296)] w fun e w' => e = .returned (.int .i64 d) ∧ w' = w := fun w => by
        have h := diff_walk x ((x + d) % 4294967296) w
        rw [dif_add x d d0 d1] at h; exact h
      have cL : ∀ w, Calls Try.prog 16 #[.int .i64 x, .int .i64 ((x + d) % 4294967296)] w fun e w' => e = .returned (.bool (decide (0 < d))) ∧ w' = w := fun w => by
        have h := less_walk x ((x + d) % 4294967296) w
        rw [dif_add x d d0 d1] at h; exact h
      have cQ : ∀ w, Calls Try.prog 17 #[.int .i64 x, .int .i64 ((x + d) % 4294967296)] w fun e w' => e = .returned (.bool (decide (0 ≤ d))) ∧ w' = w := fun w => by
        have h := leq_walk x ((x + d) % 4294967296) w
        rw [dif_add x d d0 d1] at h; exact h
      have cW : ∀ n w, Calls Try.prog 18 #[.int .i64 ((x + d) % 4294967296), .int .i64 x, .int .i64 n] w fun e w' => e = .returned (.bool (decide ((if d < 0 then d + 4294967296 else d) < n))) ∧ w' = w := fun n w => by
        have h := in_walk ((x + d) % 4294967296) x n w
        rw [away_eq x d d0 d1] at h; exact h
      have cB : ∀ w, Calls Try.prog 14 #[.int .i64 ((x + d) % 4294967296), .int .i64 (-d)] w fun e w' => e = .returned (.int .i64 x) ∧ w' = w := fun w => by
        have h := add_walk ((x + d) % 4294967296) (-d) w
        rw [back_eq x d x0 x1] at h; exact h
      have hbb0 : 0 ≤ (x + d) % 4294967296 := by omega
      have hbb1 : (x + d) % 4294967296 < 4294967296 := by omega
      generalize (x + d) % 4294967296 = b at *
      have CD := hide cD
      have CL := hide cL
      have CQ := hide cQ
      have CW := hide cW
      have CB := hide cB
      clear cD cL cQ cW cB
      go_wp2_with fail
      refine (lwNext_walk _ _ ys _ HS5.out (by omega) (by omega) hyl).mono ?_
      rintro e w7 ⟨r7, rfl, p7, q7, hg7, hs7⟩
      have HS7 := hide hs7
      clear hs7 HS5
      go_wp2_with fail
      refine (lwNext_walk _ _ ys _ HS7.out (by omega) (by omega) hyl).mono ?_
      rintro e w8 ⟨r8, rfl, p8, q8, hg8, hs8⟩
      clear hs8 HS7
      have hb8 : Below w.heap.size w w8 := hb5.trans ((Below.refl _ _).grown (grown_trans hg7 hg8) hb5.size (fun k hk => by cases hk; exact hg))
      clear hb5 hg7 hg8
      by_cases h8 : r8 = 0
      · subst h8
        by_cases hd : d < 0
        · have CW0 : Hid (∀ n w, Calls Try.prog 18 #[.int .i64 b, .int .i64 x, .int .i64 n] w fun e w' => e = .returned (.bool (decide (d + 4294967296 < n))) ∧ w' = w) := hide (fun n w => by have h := CW.out n w; rw [if_pos hd] at h; exact h)
          clear CW
          go_wp2_with (first
            | (go_at_call 15; refine (CD.out _).mono ?_; rintro e w' ⟨rfl, rfl⟩)
            | (go_at_call 16; refine (CL.out _).mono ?_; rintro e w' ⟨rfl, rfl⟩)
            | (go_at_call 17; refine (CQ.out _).mono ?_; rintro e w' ⟨rfl, rfl⟩)
            | (go_at_call 18; refine (CW0.out _ _).mono ?_; rintro e w' ⟨rfl, rfl⟩)
            | (go_at_call 14; refine (CB.out _).mono ?_; rintro e w' ⟨rfl, rfl⟩))
          go_ret
          exact ⟨rfl, hb8⟩
        · have CW0 : Hid (∀ n w, Calls Try.prog 18 #[.int .i64 b, .int .i64 x, .int .i64 n] w fun e w' => e = .returned (.bool (decide (d < n))) ∧ w' = w) := hide (fun n w => by have h := CW.out n w; rw [if_neg hd] at h; exact h)
          clear CW
          go_wp2_with (first
            | (go_at_call 15; refine (CD.out _).mono ?_; rintro e w' ⟨rfl, rfl⟩)
            | (go_at_call 16; refine (CL.out _).mono ?_; rintro e w' ⟨rfl, rfl⟩)
            | (go_at_call 17; refine (CQ.out _).mono ?_; rintro e w' ⟨rfl, rfl⟩)
            | (go_at_call 18; refine (CW0.out _ _).mono ?_; rintro e w' ⟨rfl, rfl⟩)
            | (go_at_call 14; refine (CB.out _).mono ?_; rintro e w' ⟨rfl, rfl⟩))
          go_ret
          exact ⟨rfl, hb8⟩
      · have h8' : (r8 == 0) = false := by rw [beq_eq_false_iff_ne]; exact h8
        clear h8
        by_cases hd : d < 0
        · have CW0 : Hid (∀ n w, Calls Try.prog 18 #[.int .i64 b, .int .i64 x, .int .i64 n] w fun e w' => e = .returned (.bool (decide (d + 4294967296 < n))) ∧ w' = w) := hide (fun n w => by have h := CW.out n w; rw [if_pos hd] at h; exact h)
          clear CW
          go_wp2_with (first
            | (go_at_call 15; refine (CD.out _).mono ?_; rintro e w' ⟨rfl, rfl⟩)
            | (go_at_call 16; refine (CL.out _).mono ?_; rintro e w' ⟨rfl, rfl⟩)
            | (go_at_call 17; refine (CQ.out _).mono ?_; rintro e w' ⟨rfl, rfl⟩)
            | (go_at_call 18; refine (CW0.out _ _).mono ?_; rintro e w' ⟨rfl, rfl⟩)
            | (go_at_call 14; refine (CB.out _).mono ?_; rintro e w' ⟨rfl, rfl⟩))
          go_ret
          exact ⟨rfl, hb8⟩
        · have CW0 : Hid (∀ n w, Calls Try.prog 18 #[.int .i64 b, .int .i64 x, .int .i64 n] w fun e w' => e = .returned (.bool (decide (d < n))) ∧ w' = w) := hide (fun n w => by have h := CW.out n w; rw [if_neg hd] at h; exact h)
          clear CW
          go_wp2_with (first
            | (go_at_call 15; refine (CD.out _).mono ?_; rintro e w' ⟨rfl, rfl⟩)
            | (go_at_call 16; refine (CL.out _).mono ?_; rintro e w' ⟨rfl, rfl⟩)
            | (go_at_call 17; refine (CQ.out _).mono ?_; rintro e w' ⟨rfl, rfl⟩)
            | (go_at_call 18; refine (CW0.out _ _).mono ?_; rintro e w' ⟨rfl, rfl⟩)
            | (go_at_call 14; refine (CB.out _).mono ?_; rintro e w' ⟨rfl, rfl⟩))
          go_ret
          exact ⟨rfl, hb8⟩

open Go.ChangeMaps (open_string shut_string)
theorem own : ownKnob Try.prog.godebug = none := by kernel_rfl
theorem laidOut : laidOutB Try.prog = true := by kernel_rfl

set_option maxRecDepth 100000 in
theorem fnSeq_lifted (os : Os) (started : os.Started) (H : Type) (enc : TypeId × Value → H) :
    ReturnsInHanded {} Try.checked os 5 .any (Rows.fnSeqSpec.pre6 enc Try.prog Try.f5 Rows.fnSeqRow.domain false) (Rows.fnSeqSpec.post enc Try.prog Try.f5 false true false false) := by
  refine returnsInHanded_of_change (C := Try.checked) own started (by kernel_rfl) Try.func5
    (ChangeSpec.witness6 (enc := enc) (C := Try.checked) false ⟨#[], #[.slice none 0 0], []⟩ 8 (by kernel_rfl) (by kernel_rfl) (by kernel_rfl) (by kernel_rfl)) ?_
  intro W base args ds gs before hval0 hW hcnd _
  have hval : ∀ (j : Nat) t v, Try.f5.params[j]? = some t → args[j]? = some v → Value.okWide Try.prog W .any base t v := hval0
  have hW' := hW
  obtain ⟨p, q, hA0, hV, rfl, hfz, hnd⟩ := hW
  have hA : DataW.TrodAll enc Try.prog W 0 (fun _ => true) true Try.f5.params.toList args.toList ds p := hA0
  rw [Try.params5] at hA hval
  obtain ⟨v0, vs0, d0, ds0, p0, q0, hargs, rfl, rfl, h0, r0⟩ := trodAll_cons hA
  obtain ⟨rfl, rfl, rfl⟩ := trodAll_nil r0
  obtain rfl : args = #[v0] := by cases args; simp_all
  obtain ⟨rfl, rfl⟩ := trodVars_none hV
  obtain ⟨a0, len0, cap0, rfl⟩ := okWide_slice Try.underlying30 (hval 0 30 v0 rfl rfl)
  have k0 := h0
  have lt0 : ∀ x ∈ p0, x.block < W.heap.size := by obtain ⟨m, hm⟩ := k0; exact DataW.trod_lt m _ _ _ hm
  obtain ⟨z0, w0⟩ : ∃ zs, IsRow .u8 W a0 len0 cap0 zs := by
    obtain ⟨fuel, hf⟩ := h0
    rcases open_ints Try.underlying30 Try.underlying5 (by kernel_rfl) hf with ⟨hcs, _⟩ | ⟨x, l, c, zs, hcs, _, hl, hm, hz, _, hcell, hwz⟩
    · simp [Value.cells] at hcs
      obtain ⟨rfl, rfl, rfl⟩ := hcs
      exact ⟨[], .inl ⟨rfl, rfl, rfl, rfl⟩⟩
    · simp [Value.cells] at hcs
      obtain ⟨rfl, rfl, rfl⟩ := hcs
      exact ⟨zs, .inr ⟨_, rfl, hl, hm, by simpa using hz, hcell, hwz⟩⟩
  clear hA0 hval0
  refine (walkFnSeq a0 len0 cap0 z0 W w0).mono fun e W' ⟨he, bel⟩ => ?_
  subst he
  exact ⟨_, rfl, _, _, _, [], _, [], hW', trodAll_mk1 (shut_bool Try.underlying4 _), (trodAll_cons_mk (Below.trod laidOut (by kernel_rfl) (of_decide_eq_true (by kernel_rfl)) k0 bel lt0) trodAll_mk0), rfl, bel.frame _, fun h => by cases h⟩

theorem fnSeq_over : Rows.fnSeqRow.holds Try.pinned (OpenSpec.ofChange Rows.fnSeqSpec) :=
  OpenClaim.holds_of_wide 5 Try.f5 rfl rfl rfl rfl rfl rfl rfl ⟨rfl, rfl, rfl, rfl, rfl⟩ rfl rfl rfl rfl rfl (by kernel_rfl) Try.func5 (by kernel_rfl)
    (of_decide_eq_true (by kernel_rfl)) (by unfold Func.isWrapper; first | (rw [if_pos (by decide +kernel)]; kernel_rfl) | (rw [if_neg (by decide +kernel)]; exact ⟨rfl, rfl⟩))
    (fun os started H enc _ => fnSeq_lifted os started H enc)

theorem fnSeq_holds : Rows.FnSeqSaid := fnSeq_over
end Go.Proofs.Ytmgjagajcmeikae
