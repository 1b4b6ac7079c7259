/-
Contracts of functions of this seat.
-/
import Derived.Test.YtfffkgladjphoaaRows
import Derived.WalkKit
import Derived.ProofKit
import Derived.OpenShut
import Derived.Test.YtfffkgladjphoaaBl1
namespace Go.Proofs.Ytfffkgladjphoaa
open Go.ChangeShapes Go.WideShapes Go.ChangeAt Go.RowKit
set_option linter.unusedVariables false
set_option maxRecDepth 100000
set_option maxHeartbeats 8000000 in
theorem validBoard_walk (u x : Int) (a : Option Addr) (n cap : Nat) (os : List PieceM) (w : World) (hn : os.length = n) (ha : ArrP w a (os.flatMap valPiece)) (hm : n ≤ 1048576) : Calls Try.prog 31 #[.agg #[.int .i64 u, .int .i64 x, .slice a n cap]] w fun e w' => e = .returned (.bool (bokB u x os)) ∧ Below w.heap.size w w' := by
  have HB0 := hide (BoxV.start w #[.int .i64 u, .int .i64 x, .slice a n cap] 28)
  have k0 := HB0.out.cell 0 _ rfl; have k1 := HB0.out.cell 1 _ rfl; have k2 := HB0.out.cell 2 _ rfl
  have HN := hide hn; have HA := hide ha
  clear hn ha
  by_cases h0 : 0 ≤ u
  · by_cases h1 : x ≤ 1099511627776
    · by_cases h2 : (n : Int) ≤ 4096
      · have HU := hide h0; have HX := hide h1
        go_enter Try.func31, Try.ntmps31
        go_wp2_with fail
        clear k0 k1 k2
        generalize w.alloc (.cells #[.int .i64 u, .int .i64 x, .slice a n cap] 28) = V0 at *
        go_loopw [3, 25] (fun s t w2 => ∃ (i : Nat) (at_ : Int), i ≤ n ∧ t = .int .i64 i ∧ s = .int .i64 at_ ∧ Hid (chk u os = chk at_ (os.drop i)) ∧ Hid (BoxV w w2 #[.int .i64 u, .int .i64 x, .slice a n cap] 28)) (fun _ t _ => n - (intOf t).toNat)
        case atStart => exact ⟨0, u, Nat.zero_le _, rfl, rfl, hide rfl, HB0⟩
        case round =>
          obtain ⟨i, at_, hi, rfl, rfl, HC, HB⟩ := hrel
          by_cases hlt : i < n
          · skip
            have hio : i < os.length := by rw [HN.out]; exact hlt
            obtain ⟨b, off, rfl, hbs, c0, c1, c2, c3, c4, c5⟩ := piece_cells (HA.out.below HB.out.1 (Nat.le_refl _)) hio
            have HD := hide (HC.out.trans (congrArg (chk at_) (chk_drop hio)))
            generalize os[i] = o at *
            obtain ⟨x0, x1, x2, x3, x4, x5⟩ := o
            dsimp only at c0 c1 c2 c3 c4 c5
            have hal := (Below.refl wr.heap.size wr).alloc (Nat.le_refl _) (.cells #[.int .i64 x0, .int .i64 x1, .int .i64 x2, .int .i64 x3, .bool x4, .bool x5] 36)
            have HB2 := hide (HB.out.next hal)
            have HR2 : Hid (HoldV (wr.alloc (.cells #[.int .i64 x0, .int .i64 x1, .int .i64 x2, .int .i64 x3, .bool x4, .bool x5] 36)) wr.heap.size _ 36) := hide (heap_alloc_new _ _)
            have b0 := HB2.out.cell 0 _ rfl; have b1 := HB2.out.cell 1 _ rfl; have b2 := HB2.out.cell 2 _ rfl
            have r0 := HR2.out.cell 0 _ rfl; have r1 := HR2.out.cell 1 _ rfl; have r2 := HR2.out.cell 2 _ rfl; have r3 := HR2.out.cell 3 _ rfl; have r4 := HR2.out.cell 4 _ rfl; have r5 := HR2.out.cell 5 _ rfl
            clear hal
            by_cases he : x0 = at_
            · subst he
              have CV := hide (validPiece_walk x0 x1 x2 x3 x4 x5 (wr.alloc (.cells #[.int .i64 x0, .int .i64 x1, .int .i64 x2, .int .i64 x3, .bool x4, .bool x5] 36)))
              generalize hV : wr.alloc (.cells #[.int .i64 x0, .int .i64 x1, .int .i64 x2, .int .i64 x3, .bool x4, .bool x5] 36) = V at *
              cases hv : vpB ⟨x0, x1, x2, x3, x4, x5⟩ with
              | false =>
                rw [hv] at CV
                have E : Hid (bokB u x os = false) := hide (bokB_no (fun h => by have h4 := h.2.2.2; rw [HD.out, chk_ill (fun hh => by have := decide_eq_true hh.2; unfold vpB at hv; rw [this] at hv; cases hv)] at h4; cases h4))
                clear hv
                subst hV
                go_wp2_with (go_at_call 36; refine CV.out.mono ?_; rintro e w2 ⟨rfl, hw2⟩)
                go_ret
                exact ⟨ret_bool E.out.symm, (HB2.out.next hw2).1⟩
              | true =>
                rw [hv] at CV
                have HD2 : Hid (chk u os = chk x1 (os.drop (i + 1))) := hide (HD.out.trans (chk_cons rfl (of_decide_eq_true hv)))
                clear hv
                subst hV
                go_wp2_with (go_at_call 36; refine CV.out.mono ?_; rintro e w2 ⟨rfl, hw2⟩; have r1 := (HR2.out.next hw2).cell 1 _ rfl)
                exact ⟨⟨i + 1, x1, by omega, by go_num, rfl, HD2, hide (HB2.out.next hw2)⟩, by simp [intOf]; omega⟩
            · have E : Hid (bokB u x os = false) := hide (bokB_no (fun h => by have h4 := h.2.2.2; rw [HD.out, chk_ill (fun hh => he hh.1)] at h4; cases h4))
              have he2 : (x0 == at_) = false := beq_eq_false_iff_ne.2 he
              go_wp2_with fail
              go_ret
              exact ⟨ret_bool E.out.symm, HB2.out.1⟩
          · skip
            have hin : i = n := by omega
            subst hin
            have HC2 : Hid (chk u os = some at_) := hide (by rw [HC.out, List.drop_eq_nil_of_le (by rw [HN.out]; exact Nat.le_refl _)]; rfl)
            have b0 := HB.out.cell 0 _ rfl; have b1 := HB.out.cell 1 _ rfl; have b2 := HB.out.cell 2 _ rfl
            by_cases hx : at_ = x
            · subst hx
              have E : Hid (bokB u at_ os = true) := hide (bokB_yes ⟨HU.out, HX.out, by rw [HN.out]; omega, HC2.out⟩)
              go_wp2_with fail
              go_ret
              exact ⟨ret_bool E.out.symm, HB.out.1⟩
            · have hx2 : (at_ == x) = false := beq_eq_false_iff_ne.2 hx
              have E : Hid (bokB u x os = false) := hide (bokB_no (fun h => by have := h.2.2.2; rw [HC2.out] at this; cases this; exact hx rfl))
              go_wp2_with fail
              go_ret
              exact ⟨ret_bool E.out.symm, HB.out.1⟩
      · skip
        have E : Hid (bokB u x os = false) := hide (bokB_no (fun h => h2 (by have := h.2.2.1; rw [HN.out] at this; omega)))
        go_enter Try.func31, Try.ntmps31
        go_wp2_with fail
        go_ret
        exact ⟨ret_bool E.out.symm, HB0.out.1⟩
    · skip
      have E : Hid (bokB u x os = false) := hide (bokB_no (fun h => h1 h.2.1))
      go_enter Try.func31, Try.ntmps31
      go_wp2_with fail
      go_ret
      exact ⟨ret_bool E.out.symm, HB0.out.1⟩
  · skip
    have E : Hid (bokB u x os = false) := hide (bokB_no (fun h => h0 h.1))
    go_enter Try.func31, Try.ntmps31
    go_wp2_with fail
    go_ret
    exact ⟨ret_bool E.out.symm, HB0.out.1⟩

set_option maxHeartbeats 8000000 in
theorem l15OK_walk (u x : Int) (a : Option Addr) (n cap : Nat) (os : List PieceM) (w : World) (hn : os.length = n) (ha : ArrP w a (os.flatMap valPiece)) (hm : n ≤ 1048576) : Calls Try.prog 16 #[.agg #[.int .i64 u, .int .i64 x, .slice a n cap]] w fun e w' => e = .returned (.bool (bokB u x os)) ∧ Below w.heap.size w w' := by
  have HB0 := hide (BoxV.start w #[.int .i64 u, .int .i64 x, .slice a n cap] 28)
  have k0 := HB0.out.cell 0 _ rfl; have k1 := HB0.out.cell 1 _ rfl; have k2 := HB0.out.cell 2 _ rfl
  have HN := hide hn; have HA := hide ha
  clear hn ha
  by_cases h0 : 0 ≤ u
  · by_cases h3 : u ≤ x
    · by_cases h1 : x ≤ 1099511627776
      · by_cases h2 : (n : Int) ≤ 4096
        · have HU := hide h0; have HX := hide h1
          go_enter Try.func16, Try.ntmps16
          go_wp2_with fail
          clear k0 k1 k2
          generalize w.alloc (.cells #[.int .i64 u, .int .i64 x, .slice a n cap] 28) = V0 at *
          go_loopw [3, 4] (fun s t w2 => ∃ (i : Nat) (at_ : Int), i ≤ n ∧ t = .int .i64 i ∧ s = .int .i64 at_ ∧ Hid (chk u os = chk at_ (os.drop i)) ∧ Hid (BoxV w w2 #[.int .i64 u, .int .i64 x, .slice a n cap] 28)) (fun _ t _ => n - (intOf t).toNat)
          case atStart => exact ⟨0, u, Nat.zero_le _, rfl, rfl, hide rfl, HB0⟩
          case round =>
            obtain ⟨i, at_, hi, rfl, rfl, HC, HB⟩ := hrel
            by_cases hlt : i < n
            · have p0 := HB.out.cell 0 _ rfl; have p1 := HB.out.cell 1 _ rfl; have p2 := HB.out.cell 2 _ rfl
              have hio : i < os.length := by rw [HN.out]; exact hlt
              obtain ⟨b, off, rfl, hbs, c0, c1, c2, c3, c4, c5⟩ := piece_cells (HA.out.below HB.out.1 (Nat.le_refl _)) hio
              have HD := hide (HC.out.trans (congrArg (chk at_) (chk_drop hio)))
              generalize os[i] = o at *
              obtain ⟨x0, x1, x2, x3, x4, x5⟩ := o
              dsimp only at c0 c1 c2 c3 c4 c5
              have hal := (Below.refl wr.heap.size wr).alloc (Nat.le_refl _) (.cells #[.int .i64 x0, .int .i64 x1, .int .i64 x2, .int .i64 x3, .bool x4, .bool x5] 36)
              have HB2 := hide (HB.out.next hal)
              have HR2 : Hid (HoldV (wr.alloc (.cells #[.int .i64 x0, .int .i64 x1, .int .i64 x2, .int .i64 x3, .bool x4, .bool x5] 36)) wr.heap.size _ 36) := hide (heap_alloc_new _ _)
              have b0 := HB2.out.cell 0 _ rfl; have b1 := HB2.out.cell 1 _ rfl; have b2 := HB2.out.cell 2 _ rfl
              have r0 := HR2.out.cell 0 _ rfl; have r1 := HR2.out.cell 1 _ rfl; have r2 := HR2.out.cell 2 _ rfl; have r3 := HR2.out.cell 3 _ rfl; have r4 := HR2.out.cell 4 _ rfl; have r5 := HR2.out.cell 5 _ rfl
              clear hal
              by_cases he : x0 = at_
              · subst he
                by_cases h5 : x0 < x1
                · cases h6 : inB x2 0 1000000000 with
                  | false =>
                    have E : Hid (bokB u x os = false) := hide (bokB_no (fun h => by have h4 := h.2.2.2; rw [HD.out, chk_ill (fun hh => by have := inB_iff.2 hh.2.2.1; rw [h6] at this; cases this)] at h4; cases h4))
                    go_wp2_with (go_at_call 25; refine (In_walk _ _ _ _).mono ?_; rintro e w2 ⟨rfl, rfl⟩)
                    go_ret
                    exact ⟨ret_bool E.out.symm, HB2.out.1⟩
                  | true =>
                    cases h7 : inB x3 1 1000000 with
                    | false =>
                      have E : Hid (bokB u x os = false) := hide (bokB_no (fun h => by have h4 := h.2.2.2; rw [HD.out, chk_ill (fun hh => by have := inB_iff.2 hh.2.2.2.1; rw [h7] at this; cases this)] at h4; cases h4))
                      go_wp2_with (go_at_call 25; refine (In_walk _ _ _ _).mono ?_; rintro e w2 ⟨rfl, rfl⟩)
                      go_ret
                      exact ⟨ret_bool E.out.symm, HB2.out.1⟩
                    | true =>
                      cases x4 with
                      | true =>
                        cases x5 with
                        | true =>
                          have E : Hid (bokB u x os = false) := hide (bokB_no (fun h => by have h4 := h.2.2.2; rw [HD.out, chk_ill (fun hh => hh.2.2.2.2 ⟨rfl, rfl⟩)] at h4; cases h4))
                          go_wp2_with (go_at_call 25; refine (In_walk _ _ _ _).mono ?_; rintro e w2 ⟨rfl, rfl⟩)
                          go_ret
                          exact ⟨ret_bool E.out.symm, HB2.out.1⟩
                        | false =>
                          have HD2 : Hid (chk u os = chk x1 (os.drop (i + 1))) := hide (HD.out.trans (chk_cons rfl ⟨h5, inB_iff.1 h6, inB_iff.1 h7, by simp⟩))
                          go_wp2_with (go_at_call 25; refine (In_walk _ _ _ _).mono ?_; rintro e w2 ⟨rfl, rfl⟩)
                          exact ⟨⟨i + 1, x1, by omega, by go_num, rfl, HD2, HB2⟩, by simp [intOf]; omega⟩
                      | false =>
                        have HD2 : Hid (chk u os = chk x1 (os.drop (i + 1))) := hide (HD.out.trans (chk_cons rfl ⟨h5, inB_iff.1 h6, inB_iff.1 h7, by simp⟩))
                        go_wp2_with (go_at_call 25; refine (In_walk _ _ _ _).mono ?_; rintro e w2 ⟨rfl, rfl⟩)
                        exact ⟨⟨i + 1, x1, by omega, by go_num, rfl, HD2, HB2⟩, by simp [intOf]; omega⟩
                · skip
                  have E : Hid (bokB u x os = false) := hide (bokB_no (fun h => by have h4 := h.2.2.2; rw [HD.out, chk_ill (fun hh => h5 hh.2.1)] at h4; cases h4))
                  go_wp2_with (go_at_call 25; refine (In_walk _ _ _ _).mono ?_; rintro e w2 ⟨rfl, rfl⟩)
                  go_ret
                  exact ⟨ret_bool E.out.symm, HB2.out.1⟩
              · have he2 : (x0 == at_) = false := beq_eq_false_iff_ne.2 he
                have E : Hid (bokB u x os = false) := hide (bokB_no (fun h => by have h4 := h.2.2.2; rw [HD.out, chk_ill (fun hh => he hh.1)] at h4; cases h4))
                go_wp2_with (go_at_call 25; refine (In_walk _ _ _ _).mono ?_; rintro e w2 ⟨rfl, rfl⟩)
                go_ret
                exact ⟨ret_bool E.out.symm, HB2.out.1⟩
            · skip
              have hin : i = n := by omega
              subst hin
              have HC2 : Hid (chk u os = some at_) := hide (by rw [HC.out, List.drop_eq_nil_of_le (by rw [HN.out]; exact Nat.le_refl _)]; rfl)
              have b0 := HB.out.cell 0 _ rfl; have b1 := HB.out.cell 1 _ rfl; have b2 := HB.out.cell 2 _ rfl
              by_cases hx : at_ = x
              · subst hx
                have E : Hid (bokB u at_ os = true) := hide (bokB_yes ⟨HU.out, HX.out, by rw [HN.out]; omega, HC2.out⟩)
                go_wp2_with fail
                go_ret
                exact ⟨ret_bool E.out.symm, HB.out.1⟩
              · have hx2 : (at_ == x) = false := beq_eq_false_iff_ne.2 hx
                have E : Hid (bokB u x os = false) := hide (bokB_no (fun h => by have := h.2.2.2; rw [HC2.out] at this; cases this; exact hx rfl))
                go_wp2_with fail
                go_ret
                exact ⟨ret_bool E.out.symm, HB.out.1⟩
        · skip
          have E : Hid (bokB u x os = false) := hide (bokB_no (fun h => h2 (by have := h.2.2.1; rw [HN.out] at this; omega)))
          go_enter Try.func16, Try.ntmps16
          go_wp2_with fail
          go_ret
          exact ⟨ret_bool E.out.symm, HB0.out.1⟩
      · skip
        have E : Hid (bokB u x os = false) := hide (bokB_no (fun h => h1 h.2.1))
        go_enter Try.func16, Try.ntmps16
        go_wp2_with fail
        go_ret
        exact ⟨ret_bool E.out.symm, HB0.out.1⟩
    · skip
      have E : Hid (bokB u x os = false) := hide (bokB_no (fun h => h3 (chk_le _ _ _ h.2.2.2)))
      go_enter Try.func16, Try.ntmps16
      go_wp2_with fail
      go_ret
      exact ⟨ret_bool E.out.symm, HB0.out.1⟩
  · skip
    have E : Hid (bokB u x os = false) := hide (bokB_no (fun h => h0 h.1))
    go_enter Try.func16, Try.ntmps16
    go_wp2_with fail
    go_ret
    exact ⟨ret_bool E.out.symm, HB0.out.1⟩
end Go.Proofs.Ytfffkgladjphoaa
