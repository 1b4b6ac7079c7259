/-
Contracts of functions of this seat.
-/
import Derived.Test.YtmlpninkilcjaaaDoorRows
import Derived.WalkKit
import Derived.ProofKit
import Derived.OpenShut
import Derived.Test.YtmlpninkilcjaaaDoorOsw
namespace Go.Proofs.YtmlpninkilcjaaaDoor
open Go.ChangeShapes Go.WideShapes Go.ChangeAt Go.RowKit
set_option linter.unusedVariables false
set_option maxRecDepth 100000
abbrev wVia : ByteArray := ⟨#[118, 105, 97]⟩
abbrev wLink : ByteArray := ⟨#[108, 105, 110, 107]⟩
abbrev wMetric : ByteArray := ⟨#[109, 101, 116, 114, 105, 99]⟩
theorem BoxV.grown {w W W' : World} {vs : Array Value} {T n : Nat} {v : Value} {xs : List Value} (h : BoxV w W vs T) (hg : W.grownBy W' v.ownBlock) (ho : W.ownsRow (w.heap.size + 1) 9 1 v n xs) : BoxV w W' vs T := by
  have hb := grown_low (C := w.heap.size + 1) hg ho (Nat.le_refl _) h.2.1
  exact ⟨h.1.trans (hb.mono (by omega)), by have := hb.size; have := h.2.1; omega, (hb.block _ (by omega)).trans h.2.2⟩
set_option maxHeartbeats 4000000 in
theorem rwords_00 (a b v l m : Int) (w : World) (P A L M : ByteArray) (hv : (v != 0) = false) (hm : (m != 0) = false)
    (CP0 : ∀ W, BoxV w W #[.int .i64 a, .int .i64 b, .int .i64 v, .int .i64 l, .int .i64 m] 33 → Calls Tryd.prog 28 #[.agg #[.int .i64 a, .int .i64 b]] W fun e w' => e = .returned (.tuple #[.string P, .int .i64 0]) ∧ Below W.heap.size W w')
    (CL0 : ∀ W, BoxV w W #[.int .i64 a, .int .i64 b, .int .i64 v, .int .i64 l, .int .i64 m] 33 → Calls Tryd.prog 30 #[.int .i64 l, .int .i64 10] W fun e w' => e = .returned (.string L) ∧ Below W.heap.size W w')
    : Calls Tryd.prog 16 #[.agg #[.int .i64 a, .int .i64 b, .int .i64 v, .int .i64 l, .int .i64 m]] w fun e w' => ∃ u, e = .returned u ∧ OwnS w' (w.heap.size + 1) u ([P] ++ [wLink, L]) ∧ Below w.heap.size w w' := by
  obtain ⟨i, hi, hz0, hz1, hz2⟩ := info_parts Tryd.infoS
  have HI := hide hi
  have HZ0 := hide hz0
  have HZ1 := hide hz1
  have HZ2 := hide hz2
  clear hi hz0 hz1 hz2
  have HB0 := hide (BoxV.start w #[.int .i64 a, .int .i64 b, .int .i64 v, .int .i64 l, .int .i64 m] 33)
  have CP := hide CP0
  have CL := hide CL0
  clear CP0 CL0
  go_enter Tryd.func16, Tryd.ntmps16
  go_wp2_with fail
  refine (CP.out _ HB0.out).mono ?_
  rintro e u0 ⟨rfl, hb1⟩
  have HX0 := hide ((HB0.out.next hb1).next ((Below.refl _ _).alloc (Nat.le_refl _) (.cells #[.string P] 9)))
  have HO0 : Hid (OwnS (u0.alloc (.cells #[.string P] 9)) (w.heap.size + 1) (.slice (some ⟨u0.heap.size, 0, none⟩) 1 1) [P]) := hide (OwnS.lit u0 _ [P] (by have := (HB0.out.next hb1).2.1; omega) (by simp [maxLen]))
  have k2 := HX0.out.cell 2 _ rfl
  have k3 := HX0.out.cell 3 _ rfl
  have k4 := HX0.out.cell 4 _ rfl
  clear hb1
  go_wp2_with fail
  refine (CL.out _ HX0.out).mono ?_
  rintro e u1 ⟨rfl, hbu⟩
  have HY1 := hide ((HX0.out.next hbu).next ((Below.refl _ _).alloc (Nat.le_refl _) (.cells #[.string wLink, .string L] 9)))
  have HP1 := hide ((HO0.out.next hbu).next ((Below.refl _ _).alloc (Nat.le_refl _) (.cells #[.string wLink, .string L] 9)))
  clear hbu HX0 HO0
  go_wp2_with (first | (at_builtin; refine wpList_append_own _ rfl _ _ 60 rfl (w.heap.size + 1) 9 i _ 1 16 Tryd.underlying60 HI.out HZ0.out HZ1.out HZ2.out rfl (by decide) (.slice (some ⟨u0.heap.size, 0, none⟩) 1 1) _ _ rfl HP1.out ⟨u1.heap.size, 0, none⟩ 2 2 ([wLink, L].map Value.string) rfl rfl (two_strs _ _ _ _) (strCells1 _) (by simp [maxLen]) (by simp) HY1.out.2.1 ?_; intro v1 w1 hown hgrow hnil; have HX1 := hide (BoxV.grown HY1.out hgrow HP1.out); have HO1 : Hid (OwnS w1 (w.heap.size + 1) v1 ([P] ++ [wLink, L])) := hide (OwnS.app hown rfl); clear hown hgrow hnil; have j3 := HX1.out.cell 3 _ rfl; have j4 := HX1.out.cell 4 _ rfl))
  go_ret
  exact ⟨_, rfl, HO1.out, HX1.out.1⟩
set_option maxHeartbeats 4000000 in
theorem rwords_01 (a b v l m : Int) (w : World) (P A L M : ByteArray) (hv : (v != 0) = false) (hm : (m != 0) = true)
    (CP0 : ∀ W, BoxV w W #[.int .i64 a, .int .i64 b, .int .i64 v, .int .i64 l, .int .i64 m] 33 → Calls Tryd.prog 28 #[.agg #[.int .i64 a, .int .i64 b]] W fun e w' => e = .returned (.tuple #[.string P, .int .i64 0]) ∧ Below W.heap.size W w')
    (CL0 : ∀ W, BoxV w W #[.int .i64 a, .int .i64 b, .int .i64 v, .int .i64 l, .int .i64 m] 33 → Calls Tryd.prog 30 #[.int .i64 l, .int .i64 10] W fun e w' => e = .returned (.string L) ∧ Below W.heap.size W w')
    (CM0 : ∀ W, BoxV w W #[.int .i64 a, .int .i64 b, .int .i64 v, .int .i64 l, .int .i64 m] 33 → Calls Tryd.prog 30 #[.int .i64 m, .int .i64 10] W fun e w' => e = .returned (.string M) ∧ Below W.heap.size W w')
    : Calls Tryd.prog 16 #[.agg #[.int .i64 a, .int .i64 b, .int .i64 v, .int .i64 l, .int .i64 m]] w fun e w' => ∃ u, e = .returned u ∧ OwnS w' (w.heap.size + 1) u ([P] ++ [wLink, L] ++ [wMetric, M]) ∧ Below w.heap.size w w' := by
  obtain ⟨i, hi, hz0, hz1, hz2⟩ := info_parts Tryd.infoS
  have HI := hide hi
  have HZ0 := hide hz0
  have HZ1 := hide hz1
  have HZ2 := hide hz2
  clear hi hz0 hz1 hz2
  have HB0 := hide (BoxV.start w #[.int .i64 a, .int .i64 b, .int .i64 v, .int .i64 l, .int .i64 m] 33)
  have CP := hide CP0
  have CL := hide CL0
  have CM := hide CM0
  clear CM0
  clear CP0 CL0
  go_enter Tryd.func16, Tryd.ntmps16
  go_wp2_with fail
  refine (CP.out _ HB0.out).mono ?_
  rintro e u0 ⟨rfl, hb1⟩
  have HX0 := hide ((HB0.out.next hb1).next ((Below.refl _ _).alloc (Nat.le_refl _) (.cells #[.string P] 9)))
  have HO0 : Hid (OwnS (u0.alloc (.cells #[.string P] 9)) (w.heap.size + 1) (.slice (some ⟨u0.heap.size, 0, none⟩) 1 1) [P]) := hide (OwnS.lit u0 _ [P] (by have := (HB0.out.next hb1).2.1; omega) (by simp [maxLen]))
  have k2 := HX0.out.cell 2 _ rfl
  have k3 := HX0.out.cell 3 _ rfl
  have k4 := HX0.out.cell 4 _ rfl
  clear hb1
  go_wp2_with fail
  refine (CL.out _ HX0.out).mono ?_
  rintro e u1 ⟨rfl, hbu⟩
  have HY1 := hide ((HX0.out.next hbu).next ((Below.refl _ _).alloc (Nat.le_refl _) (.cells #[.string wLink, .string L] 9)))
  have HP1 := hide ((HO0.out.next hbu).next ((Below.refl _ _).alloc (Nat.le_refl _) (.cells #[.string wLink, .string L] 9)))
  clear hbu HX0 HO0
  go_wp2_with (first | (at_builtin; refine wpList_append_own _ rfl _ _ 60 rfl (w.heap.size + 1) 9 i _ 1 16 Tryd.underlying60 HI.out HZ0.out HZ1.out HZ2.out rfl (by decide) (.slice (some ⟨u0.heap.size, 0, none⟩) 1 1) _ _ rfl HP1.out ⟨u1.heap.size, 0, none⟩ 2 2 ([wLink, L].map Value.string) rfl rfl (two_strs _ _ _ _) (strCells1 _) (by simp [maxLen]) (by simp) HY1.out.2.1 ?_; intro v1 w1 hown hgrow hnil; have HX1 := hide (BoxV.grown HY1.out hgrow HP1.out); have HO1 : Hid (OwnS w1 (w.heap.size + 1) v1 ([P] ++ [wLink, L])) := hide (OwnS.app hown rfl); clear hown hgrow hnil; have j3 := HX1.out.cell 3 _ rfl; have j4 := HX1.out.cell 4 _ rfl))
  refine (CM.out _ HX1.out).mono ?_
  rintro e u2 ⟨rfl, hbu⟩
  have HY2 := hide ((HX1.out.next hbu).next ((Below.refl _ _).alloc (Nat.le_refl _) (.cells #[.string wMetric, .string M] 9)))
  have HP2 := hide ((HO1.out.next hbu).next ((Below.refl _ _).alloc (Nat.le_refl _) (.cells #[.string wMetric, .string M] 9)))
  clear hbu HX1 HO1
  go_wp2_with (first | (at_builtin; refine wpList_append_own _ rfl _ _ 60 rfl (w.heap.size + 1) 9 i _ 1 16 Tryd.underlying60 HI.out HZ0.out HZ1.out HZ2.out rfl (by decide) v1 _ _ rfl HP2.out ⟨u2.heap.size, 0, none⟩ 2 2 ([wMetric, M].map Value.string) rfl rfl (two_strs _ _ _ _) (strCells1 _) (by simp [maxLen]) (by simp) HY2.out.2.1 ?_; intro v2 w2 hown hgrow hnil; have HX2 := hide (BoxV.grown HY2.out hgrow HP2.out); have HO2 : Hid (OwnS w2 (w.heap.size + 1) v2 (([P] ++ [wLink, L]) ++ [wMetric, M])) := hide (OwnS.app hown rfl); clear hown hgrow hnil; have j3 := HX2.out.cell 3 _ rfl; have j4 := HX2.out.cell 4 _ rfl))
  go_ret
  exact ⟨_, rfl, HO2.out, HX2.out.1⟩
set_option maxHeartbeats 4000000 in
theorem rwords_10 (a b v l m : Int) (w : World) (P A L M : ByteArray) (hv : (v != 0) = true) (hm : (m != 0) = false)
    (CP0 : ∀ W, BoxV w W #[.int .i64 a, .int .i64 b, .int .i64 v, .int .i64 l, .int .i64 m] 33 → Calls Tryd.prog 28 #[.agg #[.int .i64 a, .int .i64 b]] W fun e w' => e = .returned (.tuple #[.string P, .int .i64 0]) ∧ Below W.heap.size W w')
    (CA0 : ∀ W, BoxV w W #[.int .i64 a, .int .i64 b, .int .i64 v, .int .i64 l, .int .i64 m] 33 → Calls Tryd.prog 29 #[.int .i64 v] W fun e w' => e = .returned (.tuple #[.string A, .int .i64 0]) ∧ Below W.heap.size W w')
    (CL0 : ∀ W, BoxV w W #[.int .i64 a, .int .i64 b, .int .i64 v, .int .i64 l, .int .i64 m] 33 → Calls Tryd.prog 30 #[.int .i64 l, .int .i64 10] W fun e w' => e = .returned (.string L) ∧ Below W.heap.size W w')
    : Calls Tryd.prog 16 #[.agg #[.int .i64 a, .int .i64 b, .int .i64 v, .int .i64 l, .int .i64 m]] w fun e w' => ∃ u, e = .returned u ∧ OwnS w' (w.heap.size + 1) u ([P] ++ [wVia, A] ++ [wLink, L]) ∧ Below w.heap.size w w' := by
  obtain ⟨i, hi, hz0, hz1, hz2⟩ := info_parts Tryd.infoS
  have HI := hide hi
  have HZ0 := hide hz0
  have HZ1 := hide hz1
  have HZ2 := hide hz2
  clear hi hz0 hz1 hz2
  have HB0 := hide (BoxV.start w #[.int .i64 a, .int .i64 b, .int .i64 v, .int .i64 l, .int .i64 m] 33)
  have CP := hide CP0
  have CA := hide CA0
  clear CA0
  have CL := hide CL0
  clear CP0 CL0
  go_enter Tryd.func16, Tryd.ntmps16
  go_wp2_with fail
  refine (CP.out _ HB0.out).mono ?_
  rintro e u0 ⟨rfl, hb1⟩
  have HX0 := hide ((HB0.out.next hb1).next ((Below.refl _ _).alloc (Nat.le_refl _) (.cells #[.string P] 9)))
  have HO0 : Hid (OwnS (u0.alloc (.cells #[.string P] 9)) (w.heap.size + 1) (.slice (some ⟨u0.heap.size, 0, none⟩) 1 1) [P]) := hide (OwnS.lit u0 _ [P] (by have := (HB0.out.next hb1).2.1; omega) (by simp [maxLen]))
  have k2 := HX0.out.cell 2 _ rfl
  have k3 := HX0.out.cell 3 _ rfl
  have k4 := HX0.out.cell 4 _ rfl
  clear hb1
  go_wp2_with fail
  refine (CA.out _ HX0.out).mono ?_
  rintro e u1 ⟨rfl, hbu⟩
  have HY1 := hide ((HX0.out.next hbu).next ((Below.refl _ _).alloc (Nat.le_refl _) (.cells #[.string wVia, .string A] 9)))
  have HP1 := hide ((HO0.out.next hbu).next ((Below.refl _ _).alloc (Nat.le_refl _) (.cells #[.string wVia, .string A] 9)))
  clear hbu HX0 HO0
  go_wp2_with (first | (at_builtin; refine wpList_append_own _ rfl _ _ 60 rfl (w.heap.size + 1) 9 i _ 1 16 Tryd.underlying60 HI.out HZ0.out HZ1.out HZ2.out rfl (by decide) (.slice (some ⟨u0.heap.size, 0, none⟩) 1 1) _ _ rfl HP1.out ⟨u1.heap.size, 0, none⟩ 2 2 ([wVia, A].map Value.string) rfl rfl (two_strs _ _ _ _) (strCells1 _) (by simp [maxLen]) (by simp) HY1.out.2.1 ?_; intro v1 w1 hown hgrow hnil; have HX1 := hide (BoxV.grown HY1.out hgrow HP1.out); have HO1 : Hid (OwnS w1 (w.heap.size + 1) v1 ([P] ++ [wVia, A])) := hide (OwnS.app hown rfl); clear hown hgrow hnil; have j3 := HX1.out.cell 3 _ rfl; have j4 := HX1.out.cell 4 _ rfl))
  refine (CL.out _ HX1.out).mono ?_
  rintro e u2 ⟨rfl, hbu⟩
  have HY2 := hide ((HX1.out.next hbu).next ((Below.refl _ _).alloc (Nat.le_refl _) (.cells #[.string wLink, .string L] 9)))
  have HP2 := hide ((HO1.out.next hbu).next ((Below.refl _ _).alloc (Nat.le_refl _) (.cells #[.string wLink, .string L] 9)))
  clear hbu HX1 HO1
  go_wp2_with (first | (at_builtin; refine wpList_append_own _ rfl _ _ 60 rfl (w.heap.size + 1) 9 i _ 1 16 Tryd.underlying60 HI.out HZ0.out HZ1.out HZ2.out rfl (by decide) v1 _ _ rfl HP2.out ⟨u2.heap.size, 0, none⟩ 2 2 ([wLink, L].map Value.string) rfl rfl (two_strs _ _ _ _) (strCells1 _) (by simp [maxLen]) (by simp) HY2.out.2.1 ?_; intro v2 w2 hown hgrow hnil; have HX2 := hide (BoxV.grown HY2.out hgrow HP2.out); have HO2 : Hid (OwnS w2 (w.heap.size + 1) v2 (([P] ++ [wVia, A]) ++ [wLink, L])) := hide (OwnS.app hown rfl); clear hown hgrow hnil; have j3 := HX2.out.cell 3 _ rfl; have j4 := HX2.out.cell 4 _ rfl))
  go_ret
  exact ⟨_, rfl, HO2.out, HX2.out.1⟩
set_option maxHeartbeats 4000000 in
theorem rwords_11 (a b v l m : Int) (w : World) (P A L M : ByteArray) (hv : (v != 0) = true) (hm : (m != 0) = true)
    (CP0 : ∀ W, BoxV w W #[.int .i64 a, .int .i64 b, .int .i64 v, .int .i64 l, .int .i64 m] 33 → Calls Tryd.prog 28 #[.agg #[.int .i64 a, .int .i64 b]] W fun e w' => e = .returned (.tuple #[.string P, .int .i64 0]) ∧ Below W.heap.size W w')
    (CA0 : ∀ W, BoxV w W #[.int .i64 a, .int .i64 b, .int .i64 v, .int .i64 l, .int .i64 m] 33 → Calls Tryd.prog 29 #[.int .i64 v] W fun e w' => e = .returned (.tuple #[.string A, .int .i64 0]) ∧ Below W.heap.size W w')
    (CL0 : ∀ W, BoxV w W #[.int .i64 a, .int .i64 b, .int .i64 v, .int .i64 l, .int .i64 m] 33 → Calls Tryd.prog 30 #[.int .i64 l, .int .i64 10] W fun e w' => e = .returned (.string L) ∧ Below W.heap.size W w')
    (CM0 : ∀ W, BoxV w W #[.int .i64 a, .int .i64 b, .int .i64 v, .int .i64 l, .int .i64 m] 33 → Calls Tryd.prog 30 #[.int .i64 m, .int .i64 10] W fun e w' => e = .returned (.string M) ∧ Below W.heap.size W w')
    : Calls Tryd.prog 16 #[.agg #[.int .i64 a, .int .i64 b, .int .i64 v, .int .i64 l, .int .i64 m]] w fun e w' => ∃ u, e = .returned u ∧ OwnS w' (w.heap.size + 1) u ([P] ++ [wVia, A] ++ [wLink, L] ++ [wMetric, M]) ∧ Below w.heap.size w w' := by
  obtain ⟨i, hi, hz0, hz1, hz2⟩ := info_parts Tryd.infoS
  have HI := hide hi
  have HZ0 := hide hz0
  have HZ1 := hide hz1
  have HZ2 := hide hz2
  clear hi hz0 hz1 hz2
  have HB0 := hide (BoxV.start w #[.int .i64 a, .int .i64 b, .int .i64 v, .int .i64 l, .int .i64 m] 33)
  have CP := hide CP0
  have CA := hide CA0
  clear CA0
  have CL := hide CL0
  have CM := hide CM0
  clear CM0
  clear CP0 CL0
  go_enter Tryd.func16, Tryd.ntmps16
  go_wp2_with fail
  refine (CP.out _ HB0.out).mono ?_
  rintro e u0 ⟨rfl, hb1⟩
  have HX0 := hide ((HB0.out.next hb1).next ((Below.refl _ _).alloc (Nat.le_refl _) (.cells #[.string P] 9)))
  have HO0 : Hid (OwnS (u0.alloc (.cells #[.string P] 9)) (w.heap.size + 1) (.slice (some ⟨u0.heap.size, 0, none⟩) 1 1) [P]) := hide (OwnS.lit u0 _ [P] (by have := (HB0.out.next hb1).2.1; omega) (by simp [maxLen]))
  have k2 := HX0.out.cell 2 _ rfl
  have k3 := HX0.out.cell 3 _ rfl
  have k4 := HX0.out.cell 4 _ rfl
  clear hb1
  go_wp2_with fail
  refine (CA.out _ HX0.out).mono ?_
  rintro e u1 ⟨rfl, hbu⟩
  have HY1 := hide ((HX0.out.next hbu).next ((Below.refl _ _).alloc (Nat.le_refl _) (.cells #[.string wVia, .string A] 9)))
  have HP1 := hide ((HO0.out.next hbu).next ((Below.refl _ _).alloc (Nat.le_refl _) (.cells #[.string wVia, .string A] 9)))
  clear hbu HX0 HO0
  go_wp2_with (first | (at_builtin; refine wpList_append_own _ rfl _ _ 60 rfl (w.heap.size + 1) 9 i _ 1 16 Tryd.underlying60 HI.out HZ0.out HZ1.out HZ2.out rfl (by decide) (.slice (some ⟨u0.heap.size, 0, none⟩) 1 1) _ _ rfl HP1.out ⟨u1.heap.size, 0, none⟩ 2 2 ([wVia, A].map Value.string) rfl rfl (two_strs _ _ _ _) (strCells1 _) (by simp [maxLen]) (by simp) HY1.out.2.1 ?_; intro v1 w1 hown hgrow hnil; have HX1 := hide (BoxV.grown HY1.out hgrow HP1.out); have HO1 : Hid (OwnS w1 (w.heap.size + 1) v1 ([P] ++ [wVia, A])) := hide (OwnS.app hown rfl); clear hown hgrow hnil; have j3 := HX1.out.cell 3 _ rfl; have j4 := HX1.out.cell 4 _ rfl))
  refine (CL.out _ HX1.out).mono ?_
  rintro e u2 ⟨rfl, hbu⟩
  have HY2 := hide ((HX1.out.next hbu).next ((Below.refl _ _).alloc (Nat.le_refl _) (.cells #[.string wLink, .string L] 9)))
  have HP2 := hide ((HO1.out.next hbu).next ((Below.refl _ _).alloc (Nat.le_refl _) (.cells #[.string wLink, .string L] 9)))
  clear hbu HX1 HO1
  go_wp2_with (first | (at_builtin; refine wpList_append_own _ rfl _ _ 60 rfl (w.heap.size + 1) 9 i _ 1 16 Tryd.underlying60 HI.out HZ0.out HZ1.out HZ2.out rfl (by decide) v1 _ _ rfl HP2.out ⟨u2.heap.size, 0, none⟩ 2 2 ([wLink, L].map Value.string) rfl rfl (two_strs _ _ _ _) (strCells1 _) (by simp [maxLen]) (by simp) HY2.out.2.1 ?_; intro v2 w2 hown hgrow hnil; have HX2 := hide (BoxV.grown HY2.out hgrow HP2.out); have HO2 : Hid (OwnS w2 (w.heap.size + 1) v2 (([P] ++ [wVia, A]) ++ [wLink, L])) := hide (OwnS.app hown rfl); clear hown hgrow hnil; have j3 := HX2.out.cell 3 _ rfl; have j4 := HX2.out.cell 4 _ rfl))
  refine (CM.out _ HX2.out).mono ?_
  rintro e u3 ⟨rfl, hbu⟩
  have HY3 := hide ((HX2.out.next hbu).next ((Below.refl _ _).alloc (Nat.le_refl _) (.cells #[.string wMetric, .string M] 9)))
  have HP3 := hide ((HO2.out.next hbu).next ((Below.refl _ _).alloc (Nat.le_refl _) (.cells #[.string wMetric, .string M] 9)))
  clear hbu HX2 HO2
  go_wp2_with (first | (at_builtin; refine wpList_append_own _ rfl _ _ 60 rfl (w.heap.size + 1) 9 i _ 1 16 Tryd.underlying60 HI.out HZ0.out HZ1.out HZ2.out rfl (by decide) v2 _ _ rfl HP3.out ⟨u3.heap.size, 0, none⟩ 2 2 ([wMetric, M].map Value.string) rfl rfl (two_strs _ _ _ _) (strCells1 _) (by simp [maxLen]) (by simp) HY3.out.2.1 ?_; intro v3 w3 hown hgrow hnil; have HX3 := hide (BoxV.grown HY3.out hgrow HP3.out); have HO3 : Hid (OwnS w3 (w.heap.size + 1) v3 ((([P] ++ [wVia, A]) ++ [wLink, L]) ++ [wMetric, M])) := hide (OwnS.app hown rfl); clear hown hgrow hnil; have j3 := HX3.out.cell 3 _ rfl; have j4 := HX3.out.cell 4 _ rfl))
  go_ret
  exact ⟨_, rfl, HO3.out, HX3.out.1⟩
end Go.Proofs.YtmlpninkilcjaaaDoor
