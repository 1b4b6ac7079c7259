/-
Contracts of functions of this seat.
-/
import Derived.Test.YtjojeplffefnpaaDoorRows
import Derived.WalkKit
import Derived.ProofKit
import Derived.OpenShut
import Derived.Test.YtjojeplffefnpaaDoorSdw
import Derived.Test.YtjojeplffefnpaaDoorVrh
namespace Go.Proofs.YtjojeplffefnpaaDoor
open Go.ChangeShapes Go.WideShapes Go.ChangeAt Go.RowKit
set_option linter.unusedVariables false
set_option maxRecDepth 100000
theorem BoxR.keep {w0 w w' : World} {A D P sa sb sl sh da db dl dh S : Int} {C : Nat} (h : BoxR w0 w A D P sa sb sl sh da db dl dh S) (hb : Below C w w') (hC : w0.heap.size < C) : BoxR w0 w' A D P sa sb sl sh da db dl dh S := by
  obtain ⟨h1, h2, c0, c1, c2, c3, c4, c5, c6, c7, c8, c9, c10, c11⟩ := h
  exact ⟨h1.trans (hb.mono (Nat.le_of_lt hC)), Nat.lt_of_lt_of_le h2 hb.size, (hb.cell (p := ⟨w0.heap.size, 0, none⟩) hC).trans c0, (hb.cell (p := ⟨w0.heap.size, 1, none⟩) hC).trans c1, (hb.cell (p := ⟨w0.heap.size, 2, none⟩) hC).trans c2, (hb.cell (p := ⟨w0.heap.size, 3, none⟩) hC).trans c3, (hb.cell (p := ⟨w0.heap.size, 4, none⟩) hC).trans c4, (hb.cell (p := ⟨w0.heap.size, 5, none⟩) hC).trans c5, (hb.cell (p := ⟨w0.heap.size, 6, none⟩) hC).trans c6, (hb.cell (p := ⟨w0.heap.size, 7, none⟩) hC).trans c7, (hb.cell (p := ⟨w0.heap.size, 8, none⟩) hC).trans c8, (hb.cell (p := ⟨w0.heap.size, 9, none⟩) hC).trans c9, (hb.cell (p := ⟨w0.heap.size, 10, none⟩) hC).trans c10, (hb.cell (p := ⟨w0.heap.size, 11, none⟩) hC).trans c11⟩
theorem BoxR.grown {w W W' : World} {A D P sa sb sl sh da db dl dh S : Int} {n : Nat} {v : Value} {xs : List Value} (h : BoxR w W A D P sa sb sl sh da db dl dh S) (hg : W.grownBy W' v.ownBlock) (ho : W.ownsRow (w.heap.size + 1) 9 1 v n xs) : BoxR w W' A D P sa sb sl sh da db dl dh S :=
  h.keep (grown_low (C := w.heap.size + 1) hg ho (Nat.le_refl _) h.2.1) (Nat.lt_succ_self _)
theorem one_str (w : World) (x : ByteArray) (t : Nat) : ∀ (j : Nat) u, ([x].map Value.string)[j]? = some u → (w.alloc (.cells #[.string x] t)).cell? ((⟨w.heap.size, 0, none⟩ : Addr).add j) = some u := by
  intro j u hu
  match j with
  | 0 =>
    simp at hu
    subst hu
    exact cell_of_row _ w.heap.size 0 #[.string x] t (0, 0) (heap_alloc_new w _)
  | j + 1 => simp at hu
theorem ws_cells {w : World} {g : Nat} {ss : List ByteArray} (h : ∀ (j : Nat) x, ss[j]? = some x → w.cell? ⟨g, 0 + j, none⟩ = some (.string x)) : ∀ (j : Nat) u, (ss.map Value.string)[j]? = some u → w.cell? ((⟨g, 0, none⟩ : Addr).add j) = some u := by
  intro j u hu
  rw [List.getElem?_map] at hu
  cases e : ss[j]? with
  | none => rw [e] at hu; cases hu
  | some x => rw [e] at hu; cases hu; (have k := h j x e; cases j with | zero => simpa [Addr.add] using k | succ j => simpa [Addr.add] using k)
set_option maxHeartbeats 8000000 in
theorem ruleW_z (A D P sa sb sl sh da db dl dh S : Int) (w : World) (ws1 ws2 : List ByteArray) (n1 n2 : Nat) (hn1 : ws1 ≠ []) (hn2 : ws2 ≠ []) (hl1 : ws1.length = n1) (hl2 : ws2.length = n2) (hm1 : n1 ≤ 3) (hm2 : n2 ≤ 3) (hA0 : inB A 1 3 = true) (hD0 : inB D 1 3 = true) (hP0 : decide (P = 0 ∨ P = 1 ∨ P = 6 ∨ P = 17) = true)
    (CX0 : ∀ W, BoxR w W A D P sa sb sl sh da db dl dh 0 → Calls Tryd.prog 62 #[.agg #[.int .i64 sa, .int .i64 sb], .int .i64 sl, .int .i64 sh] W fun e w' => ∃ u, e = .returned u ∧ OwnW w' (W.heap.size + 1) u ws1 ∧ Below W.heap.size W w')
    (CY0 : ∀ W, BoxR w W A D P sa sb sl sh da db dl dh 0 → Calls Tryd.prog 62 #[.agg #[.int .i64 da, .int .i64 db], .int .i64 dl, .int .i64 dh] W fun e w' => ∃ u, e = .returned u ∧ OwnW w' (W.heap.size + 1) u ws2 ∧ Below W.heap.size W w')
    : Calls Tryd.prog 24 #[.agg #[.int .i64 A, .int .i64 D, .int .i64 P, .int .i64 sa, .int .i64 sb, .int .i64 sl, .int .i64 sh, .int .i64 da, .int .i64 db, .int .i64 dl, .int .i64 dh, .int .i64 0]] w fun e w' => ∃ u, e = .returned u ∧ OwnW w' (w.heap.size + 1) u (((([actW A, dirW D, protW P] ++ [wFrom]) ++ ws1) ++ [wTo]) ++ ws2) ∧ Below w.heap.size w w' := by
  obtain ⟨i, hi, hz0, hz1, hz2⟩ := info_parts Tryd.infoS
  have HI := hide hi
  have HZ0 := hide hz0
  have HZ1 := hide hz1
  have HZ2 := hide hz2
  clear hi hz0 hz1 hz2
  have hA := hide hA0
  have hD := hide hD0
  have hP := hide hP0
  clear hA0 hD0 hP0


  have HN1 := hide hn1
  have HN2 := hide hn2
  have HL1 := hide hl1
  have HL2 := hide hl2
  clear hn1 hn2 hl1 hl2
  have CX := hide CX0
  have CY := hide CY0
  clear CX0 CY0
  have HB := hide (BoxR.start w A D P sa sb sl sh da db dl dh 0 44)
  go_enter Tryd.func24, Tryd.ntmps24
  go_wp2_with fail
  have hK := HB.out.drew
  generalize w.alloc (.cells #[.int .i64 A, .int .i64 D, .int .i64 P, .int .i64 sa, .int .i64 sb, .int .i64 sl, .int .i64 sh, .int .i64 da, .int .i64 db, .int .i64 dl, .int .i64 dh, .int .i64 0] 44) = W0 at *
  clear HB
  refine wp_region_lex (fun w' => BoxR w w' A D P sa sb sl sh da db dl dh 0) ((1, true) :: (2, true) :: (5, true) :: (6, true) :: (9, true) :: (10, true) :: (0, false) :: (3, false) :: (4, false) :: (7, false) :: (8, false) :: (11, false) :: (12, false) :: (13, true) :: []) (by kernel_rfl) (by kernel_rfl) (by kernel_rfl) rfl hK ?_
  repeat (first
    | (refine wpLex_take ?_ rfl (by rfl) (fun _ _ _ h => h) ?_ ?_; rotate_left; (intro wq hSw; (try dsimp only at hSw); first | (go_simp; done) | (go_simp; with_reducible rfl)); simp only [Act.put, List.setIfInBounds_toArray, List.set_cons_zero, List.set_cons_succ])
    | (refine wpLex_act rfl (by rfl) ?_; intro KK hKK; go_simp; (first
      | (go_at_call 53; refine (actionWords_walk _).mono ?_; rintro e w' ⟨rfl, hLa⟩; have hK := BoxR.next hK hLa.2.2)
      | (go_at_call 61; refine (word_act A hA.out hLa.1 hLa.2.1).mono ?_; clear hLa; rintro e w' ⟨rfl, hbx⟩; have hK := BoxR.next hK hbx; clear hbx)
      | (go_at_call 54; refine (dirWords_walk _).mono ?_; rintro e w' ⟨rfl, hLd⟩; have hK := BoxR.next hK hLd.2.2)
      | (go_at_call 61; refine (word_dir D hD.out hLd.1 hLd.2.1).mono ?_; clear hLd; rintro e w' ⟨rfl, hbx⟩; have hK := BoxR.next hK hbx; clear hbx)
      | (go_at_call 55; refine (protoWords_walk _).mono ?_; rintro e w' ⟨rfl, hLp⟩; have hK := BoxR.next hK hLp.2.2)
      | (go_at_call 61; refine (word_pro P hP.out hLp.1 hLp.2.1).mono ?_; clear hLp; rintro e w' ⟨rfl, hbx⟩; have hK := BoxR.next hK hbx; clear hbx)
      | (rename World => W3; have hLit := OwnW.lit W3 (w.heap.size + 1) [actW A, dirW D, protW P] hK.2.1 (by simp [maxLen]); have hK := BoxR.next hK ((Below.refl _ _).alloc (Nat.le_refl _) (.cells #[.string (actW A), .string (dirW D), .string (protW P)] 9)))); (try go_wp2_with fail); refine hKK.out _ _ hK ?_; clear hKK KK; try simp only [Act.put, List.setIfInBounds_toArray, List.set_cons_zero, List.set_cons_succ]))
  refine wpLex_nil ?_
  have HX0 := hide hK
  have HO0 : Hid (OwnW (W3.alloc (.cells #[.string (actW A), .string (dirW D), .string (protW P)] 9)) (w.heap.size + 1) (.slice (some ⟨W3.heap.size, 0, none⟩) 3 3) [actW A, dirW D, protW P]) := hide hLit
  clear hK hLit
  generalize (W3.alloc (.cells #[.string (actW A), .string (dirW D), .string (protW P)] 9)) = U0 at *
  generalize W3.heap.size = g0 at *
  have HY1 := hide (BoxR.next HX0.out ((Below.refl _ _).alloc (Nat.le_refl _) (.cells #[.string wFrom] 9)))
  have HP1 := hide (HO0.out.next ((Below.refl _ _).alloc (Nat.le_refl _) (.cells #[.string wFrom] 9)))
  go_wp2_with (first | (at_builtin; refine wpList_append_own _ rfl _ _ 74 rfl (w.heap.size + 1) 9 i _ 1 16 Tryd.underlying74 HI.out HZ0.out HZ1.out HZ2.out rfl (by decide) (.slice (some ⟨g0, 0, none⟩) 3 3) _ _ rfl HP1.out ⟨U0.heap.size, 0, none⟩ 1 1 ([wFrom].map Value.string) rfl rfl (one_str _ _ _) (strCells1 _) (by simp [maxLen]) (by simp) HY1.out.2.1 ?_; intro v1 w1 hown hgrow hnil; have HX1 := hide (BoxR.grown HY1.out hgrow HP1.out); have HO1 : Hid (OwnW w1 (w.heap.size + 1) v1 ([actW A, dirW D, protW P] ++ [wFrom])) := hide (OwnW.app hown rfl); clear hown hgrow hnil; have k3 := HX1.out.2.2.2.2.2.1; have k4 := HX1.out.2.2.2.2.2.2.1; have k5 := HX1.out.2.2.2.2.2.2.2.1; have k6 := HX1.out.2.2.2.2.2.2.2.2.1))
  refine (CX.out _ HX1.out).mono ?_
  rintro e u2 ⟨uu, rfl, hou, hbu⟩
  obtain ⟨g2, cap2, hu, hgB, hgl, hgc, hgcell⟩ := hou.form HN1.out
  rw [HL1.out] at hu
  subst hu
  have HY2 := hide (BoxR.next HX1.out hbu)
  have HP2 := hide (HO1.out.next hbu)
  have HG2 := hide (ws_cells hgcell)
  clear hbu hou hgB hgl hgc hgcell k3 k4 k5 k6
  go_wp2_with (first
    | (at_builtin; refine wpList_append_own _ rfl _ _ 74 rfl (w.heap.size + 1) 9 i _ 1 16 Tryd.underlying74 HI.out HZ0.out HZ1.out HZ2.out rfl (by decide) v1 _ _ rfl HP2.out ⟨g2, 0, none⟩ n1 cap2 (ws1.map Value.string) rfl (by simp [HL1.out]) HG2.out (strCells1 _) (by have e1 := HL1.out; have e2 := HL2.out; simp only [List.length_append, List.length_cons, List.length_nil]; unfold maxLen; omega) (by have e1 := HL1.out; have e2 := HL2.out; simp only [List.length_append, List.length_cons, List.length_nil]; omega) HY2.out.2.1 ?_; intro v2 w2 hown hgrow hnil; have HX2 := hide (BoxR.grown HY2.out hgrow HP2.out); have HO2 : Hid (OwnW w2 (w.heap.size + 1) v2 ([actW A, dirW D, protW P] ++ [wFrom] ++ ws1)) := hide (OwnW.app hown (by rw [HL1.out])); clear hown hgrow hnil)
    | (at_builtin; have HY3 := hide (BoxR.next HX2.out ((Below.refl _ _).alloc (Nat.le_refl _) (.cells #[.string wTo] 9))); have HP3 := hide (HO2.out.next ((Below.refl _ _).alloc (Nat.le_refl _) (.cells #[.string wTo] 9))); refine wpList_append_own _ rfl _ _ 74 rfl (w.heap.size + 1) 9 i _ 1 16 Tryd.underlying74 HI.out HZ0.out HZ1.out HZ2.out rfl (by decide) v2 _ _ rfl HP3.out ⟨w2.heap.size, 0, none⟩ 1 1 ([wTo].map Value.string) rfl rfl (one_str _ _ _) (strCells1 _) (by have e1 := HL1.out; have e2 := HL2.out; simp only [List.length_append, List.length_cons, List.length_nil]; unfold maxLen; omega) (by have e1 := HL1.out; have e2 := HL2.out; simp only [List.length_append, List.length_cons, List.length_nil]; omega) HY3.out.2.1 ?_; intro v3 w3 hown hgrow hnil; have HX3 := hide (BoxR.grown HY3.out hgrow HP3.out); have HO3 : Hid (OwnW w3 (w.heap.size + 1) v3 ((([actW A, dirW D, protW P] ++ [wFrom]) ++ ws1) ++ [wTo])) := hide (OwnW.app hown rfl); clear hown hgrow hnil; have k7 := HX3.out.2.2.2.2.2.2.2.2.2.1; have k8 := HX3.out.2.2.2.2.2.2.2.2.2.2.1; have k9 := HX3.out.2.2.2.2.2.2.2.2.2.2.2.1; have k10 := HX3.out.2.2.2.2.2.2.2.2.2.2.2.2.1))
  refine (CY.out _ HX3.out).mono ?_
  rintro e u4 ⟨uu, rfl, hou, hbu⟩
  obtain ⟨g4, cap4, hu, hgB, hgl, hgc, hgcell⟩ := hou.form HN2.out
  rw [HL2.out] at hu
  subst hu
  have HY4 := hide (BoxR.next HX3.out hbu)
  have HP4 := hide (HO3.out.next hbu)
  have HG4 := hide (ws_cells hgcell)
  clear hbu hou hgB hgl hgc hgcell k7 k8 k9 k10
  go_wp2_with (first | (at_builtin; refine wpList_append_own _ rfl _ _ 74 rfl (w.heap.size + 1) 9 i _ 1 16 Tryd.underlying74 HI.out HZ0.out HZ1.out HZ2.out rfl (by decide) v3 _ _ rfl HP4.out ⟨g4, 0, none⟩ n2 cap4 (ws2.map Value.string) rfl (by simp [HL2.out]) HG4.out (strCells1 _) (by have e1 := HL1.out; have e2 := HL2.out; simp only [List.length_append, List.length_cons, List.length_nil]; unfold maxLen; omega) (by have e1 := HL1.out; have e2 := HL2.out; simp only [List.length_append, List.length_cons, List.length_nil]; omega) HY4.out.2.1 ?_; intro v4 w4 hown hgrow hnil; have HX4 := hide (BoxR.grown HY4.out hgrow HP4.out); have HO4 : Hid (OwnW w4 (w.heap.size + 1) v4 (((([actW A, dirW D, protW P] ++ [wFrom]) ++ ws1) ++ [wTo]) ++ ws2)) := hide (OwnW.app hown (by rw [HL2.out])); clear hown hgrow hnil; have k11 := HX4.out.2.2.2.2.2.2.2.2.2.2.2.2.2))
  go_ret
  exact ⟨_, rfl, HO4.out, HX4.out.1⟩
set_option maxHeartbeats 8000000 in
theorem ruleW_s (A D P sa sb sl sh da db dl dh S : Int) (w : World) (ws1 ws2 : List ByteArray) (n1 n2 : Nat) (hn1 : ws1 ≠ []) (hn2 : ws2 ≠ []) (hl1 : ws1.length = n1) (hl2 : ws2.length = n2) (hm1 : n1 ≤ 3) (hm2 : n2 ≤ 3) (hA0 : inB A 1 3 = true) (hD0 : inB D 1 3 = true) (hP0 : decide (P = 0 ∨ P = 1 ∨ P = 6 ∨ P = 17) = true) (hS0 : inB S 1 4 = true) (hSz : (S != 0) = true)
    (CX0 : ∀ W, BoxR w W A D P sa sb sl sh da db dl dh S → Calls Tryd.prog 62 #[.agg #[.int .i64 sa, .int .i64 sb], .int .i64 sl, .int .i64 sh] W fun e w' => ∃ u, e = .returned u ∧ OwnW w' (W.heap.size + 1) u ws1 ∧ Below W.heap.size W w')
    (CY0 : ∀ W, BoxR w W A D P sa sb sl sh da db dl dh S → Calls Tryd.prog 62 #[.agg #[.int .i64 da, .int .i64 db], .int .i64 dl, .int .i64 dh] W fun e w' => ∃ u, e = .returned u ∧ OwnW w' (W.heap.size + 1) u ws2 ∧ Below W.heap.size W w')
    : Calls Tryd.prog 24 #[.agg #[.int .i64 A, .int .i64 D, .int .i64 P, .int .i64 sa, .int .i64 sb, .int .i64 sl, .int .i64 sh, .int .i64 da, .int .i64 db, .int .i64 dl, .int .i64 dh, .int .i64 S]] w fun e w' => ∃ u, e = .returned u ∧ OwnW w' (w.heap.size + 1) u ((((([actW A, dirW D, protW P] ++ [wFrom]) ++ ws1) ++ [wTo]) ++ ws2) ++ [staW S]) ∧ Below w.heap.size w w' := by
  obtain ⟨i, hi, hz0, hz1, hz2⟩ := info_parts Tryd.infoS
  have HI := hide hi
  have HZ0 := hide hz0
  have HZ1 := hide hz1
  have HZ2 := hide hz2
  clear hi hz0 hz1 hz2
  have hA := hide hA0
  have hD := hide hD0
  have hP := hide hP0
  clear hA0 hD0 hP0
  have hS := hide hS0
  clear hS0
  have HN1 := hide hn1
  have HN2 := hide hn2
  have HL1 := hide hl1
  have HL2 := hide hl2
  clear hn1 hn2 hl1 hl2
  have CX := hide CX0
  have CY := hide CY0
  clear CX0 CY0
  have HB := hide (BoxR.start w A D P sa sb sl sh da db dl dh S 44)
  go_enter Tryd.func24, Tryd.ntmps24
  go_wp2_with fail
  have hK := HB.out.drew
  generalize w.alloc (.cells #[.int .i64 A, .int .i64 D, .int .i64 P, .int .i64 sa, .int .i64 sb, .int .i64 sl, .int .i64 sh, .int .i64 da, .int .i64 db, .int .i64 dl, .int .i64 dh, .int .i64 S] 44) = W0 at *
  clear HB
  refine wp_region_lex (fun w' => BoxR w w' A D P sa sb sl sh da db dl dh S) ((1, true) :: (2, true) :: (5, true) :: (6, true) :: (9, true) :: (10, true) :: (0, false) :: (3, false) :: (4, false) :: (7, false) :: (8, false) :: (11, false) :: (12, false) :: (13, true) :: []) (by kernel_rfl) (by kernel_rfl) (by kernel_rfl) rfl hK ?_
  repeat (first
    | (refine wpLex_take ?_ rfl (by rfl) (fun _ _ _ h => h) ?_ ?_; rotate_left; (intro wq hSw; (try dsimp only at hSw); first | (go_simp; done) | (go_simp; with_reducible rfl)); simp only [Act.put, List.setIfInBounds_toArray, List.set_cons_zero, List.set_cons_succ])
    | (refine wpLex_act rfl (by rfl) ?_; intro KK hKK; go_simp; (first
      | (go_at_call 53; refine (actionWords_walk _).mono ?_; rintro e w' ⟨rfl, hLa⟩; have hK := BoxR.next hK hLa.2.2)
      | (go_at_call 61; refine (word_act A hA.out hLa.1 hLa.2.1).mono ?_; clear hLa; rintro e w' ⟨rfl, hbx⟩; have hK := BoxR.next hK hbx; clear hbx)
      | (go_at_call 54; refine (dirWords_walk _).mono ?_; rintro e w' ⟨rfl, hLd⟩; have hK := BoxR.next hK hLd.2.2)
      | (go_at_call 61; refine (word_dir D hD.out hLd.1 hLd.2.1).mono ?_; clear hLd; rintro e w' ⟨rfl, hbx⟩; have hK := BoxR.next hK hbx; clear hbx)
      | (go_at_call 55; refine (protoWords_walk _).mono ?_; rintro e w' ⟨rfl, hLp⟩; have hK := BoxR.next hK hLp.2.2)
      | (go_at_call 61; refine (word_pro P hP.out hLp.1 hLp.2.1).mono ?_; clear hLp; rintro e w' ⟨rfl, hbx⟩; have hK := BoxR.next hK hbx; clear hbx)
      | (rename World => W3; have hLit := OwnW.lit W3 (w.heap.size + 1) [actW A, dirW D, protW P] hK.2.1 (by simp [maxLen]); have hK := BoxR.next hK ((Below.refl _ _).alloc (Nat.le_refl _) (.cells #[.string (actW A), .string (dirW D), .string (protW P)] 9)))); (try go_wp2_with fail); refine hKK.out _ _ hK ?_; clear hKK KK; try simp only [Act.put, List.setIfInBounds_toArray, List.set_cons_zero, List.set_cons_succ]))
  refine wpLex_nil ?_
  have HX0 := hide hK
  have HO0 : Hid (OwnW (W3.alloc (.cells #[.string (actW A), .string (dirW D), .string (protW P)] 9)) (w.heap.size + 1) (.slice (some ⟨W3.heap.size, 0, none⟩) 3 3) [actW A, dirW D, protW P]) := hide hLit
  clear hK hLit
  generalize (W3.alloc (.cells #[.string (actW A), .string (dirW D), .string (protW P)] 9)) = U0 at *
  generalize W3.heap.size = g0 at *
  have HY1 := hide (BoxR.next HX0.out ((Below.refl _ _).alloc (Nat.le_refl _) (.cells #[.string wFrom] 9)))
  have HP1 := hide (HO0.out.next ((Below.refl _ _).alloc (Nat.le_refl _) (.cells #[.string wFrom] 9)))
  go_wp2_with (first | (at_builtin; refine wpList_append_own _ rfl _ _ 74 rfl (w.heap.size + 1) 9 i _ 1 16 Tryd.underlying74 HI.out HZ0.out HZ1.out HZ2.out rfl (by decide) (.slice (some ⟨g0, 0, none⟩) 3 3) _ _ rfl HP1.out ⟨U0.heap.size, 0, none⟩ 1 1 ([wFrom].map Value.string) rfl rfl (one_str _ _ _) (strCells1 _) (by simp [maxLen]) (by simp) HY1.out.2.1 ?_; intro v1 w1 hown hgrow hnil; have HX1 := hide (BoxR.grown HY1.out hgrow HP1.out); have HO1 : Hid (OwnW w1 (w.heap.size + 1) v1 ([actW A, dirW D, protW P] ++ [wFrom])) := hide (OwnW.app hown rfl); clear hown hgrow hnil; have k3 := HX1.out.2.2.2.2.2.1; have k4 := HX1.out.2.2.2.2.2.2.1; have k5 := HX1.out.2.2.2.2.2.2.2.1; have k6 := HX1.out.2.2.2.2.2.2.2.2.1))
  refine (CX.out _ HX1.out).mono ?_
  rintro e u2 ⟨uu, rfl, hou, hbu⟩
  obtain ⟨g2, cap2, hu, hgB, hgl, hgc, hgcell⟩ := hou.form HN1.out
  rw [HL1.out] at hu
  subst hu
  have HY2 := hide (BoxR.next HX1.out hbu)
  have HP2 := hide (HO1.out.next hbu)
  have HG2 := hide (ws_cells hgcell)
  clear hbu hou hgB hgl hgc hgcell k3 k4 k5 k6
  go_wp2_with (first
    | (at_builtin; refine wpList_append_own _ rfl _ _ 74 rfl (w.heap.size + 1) 9 i _ 1 16 Tryd.underlying74 HI.out HZ0.out HZ1.out HZ2.out rfl (by decide) v1 _ _ rfl HP2.out ⟨g2, 0, none⟩ n1 cap2 (ws1.map Value.string) rfl (by simp [HL1.out]) HG2.out (strCells1 _) (by have e1 := HL1.out; have e2 := HL2.out; simp only [List.length_append, List.length_cons, List.length_nil]; unfold maxLen; omega) (by have e1 := HL1.out; have e2 := HL2.out; simp only [List.length_append, List.length_cons, List.length_nil]; omega) HY2.out.2.1 ?_; intro v2 w2 hown hgrow hnil; have HX2 := hide (BoxR.grown HY2.out hgrow HP2.out); have HO2 : Hid (OwnW w2 (w.heap.size + 1) v2 ([actW A, dirW D, protW P] ++ [wFrom] ++ ws1)) := hide (OwnW.app hown (by rw [HL1.out])); clear hown hgrow hnil)
    | (at_builtin; have HY3 := hide (BoxR.next HX2.out ((Below.refl _ _).alloc (Nat.le_refl _) (.cells #[.string wTo] 9))); have HP3 := hide (HO2.out.next ((Below.refl _ _).alloc (Nat.le_refl _) (.cells #[.string wTo] 9))); refine wpList_append_own _ rfl _ _ 74 rfl (w.heap.size + 1) 9 i _ 1 16 Tryd.underlying74 HI.out HZ0.out HZ1.out HZ2.out rfl (by decide) v2 _ _ rfl HP3.out ⟨w2.heap.size, 0, none⟩ 1 1 ([wTo].map Value.string) rfl rfl (one_str _ _ _) (strCells1 _) (by have e1 := HL1.out; have e2 := HL2.out; simp only [List.length_append, List.length_cons, List.length_nil]; unfold maxLen; omega) (by have e1 := HL1.out; have e2 := HL2.out; simp only [List.length_append, List.length_cons, List.length_nil]; omega) HY3.out.2.1 ?_; intro v3 w3 hown hgrow hnil; have HX3 := hide (BoxR.grown HY3.out hgrow HP3.out); have HO3 : Hid (OwnW w3 (w.heap.size + 1) v3 ((([actW A, dirW D, protW P] ++ [wFrom]) ++ ws1) ++ [wTo])) := hide (OwnW.app hown rfl); clear hown hgrow hnil; have k7 := HX3.out.2.2.2.2.2.2.2.2.2.1; have k8 := HX3.out.2.2.2.2.2.2.2.2.2.2.1; have k9 := HX3.out.2.2.2.2.2.2.2.2.2.2.2.1; have k10 := HX3.out.2.2.2.2.2.2.2.2.2.2.2.2.1))
  refine (CY.out _ HX3.out).mono ?_
  rintro e u4 ⟨uu, rfl, hou, hbu⟩
  obtain ⟨g4, cap4, hu, hgB, hgl, hgc, hgcell⟩ := hou.form HN2.out
  rw [HL2.out] at hu
  subst hu
  have HY4 := hide (BoxR.next HX3.out hbu)
  have HP4 := hide (HO3.out.next hbu)
  have HG4 := hide (ws_cells hgcell)
  clear hbu hou hgB hgl hgc hgcell k7 k8 k9 k10
  go_wp2_with (first | (at_builtin; refine wpList_append_own _ rfl _ _ 74 rfl (w.heap.size + 1) 9 i _ 1 16 Tryd.underlying74 HI.out HZ0.out HZ1.out HZ2.out rfl (by decide) v3 _ _ rfl HP4.out ⟨g4, 0, none⟩ n2 cap4 (ws2.map Value.string) rfl (by simp [HL2.out]) HG4.out (strCells1 _) (by have e1 := HL1.out; have e2 := HL2.out; simp only [List.length_append, List.length_cons, List.length_nil]; unfold maxLen; omega) (by have e1 := HL1.out; have e2 := HL2.out; simp only [List.length_append, List.length_cons, List.length_nil]; omega) HY4.out.2.1 ?_; intro v4 w4 hown hgrow hnil; have HX4 := hide (BoxR.grown HY4.out hgrow HP4.out); have HO4 : Hid (OwnW w4 (w.heap.size + 1) v4 (((([actW A, dirW D, protW P] ++ [wFrom]) ++ ws1) ++ [wTo]) ++ ws2)) := hide (OwnW.app hown (by rw [HL2.out])); clear hown hgrow hnil; have k11 := HX4.out.2.2.2.2.2.2.2.2.2.2.2.2.2))
  clear k11
  have hK := HX4.out.drew
  have hO := HO4.out.next ((Below.refl _ _).drew)
  refine wp_region_lex (fun w' => BoxR w w' A D P sa sb sl sh da db dl dh S) ((0, true) :: (2, true) :: (3, true) :: (1, false) :: (4, false) :: (5, false) :: (6, false) :: (7, true) :: []) (by kernel_rfl) (by kernel_rfl) (by kernel_rfl) rfl hK ?_
  repeat (first
    | (refine wpLex_take ?_ rfl (by rfl) (fun _ _ _ h => h) ?_ ?_; rotate_left; (intro wq hSw; (try dsimp only at hSw); first | (go_simp; done) | (go_simp; with_reducible rfl)); simp only [Act.put, List.setIfInBounds_toArray, List.set_cons_zero, List.set_cons_succ])
    | (refine wpLex_act rfl (by rfl) ?_; intro KK hKK; refine wp_append_own _ (.tmp 44) (.tmp 49) 74 rfl (w.heap.size + 1) 9 i _ 1 16 Tryd.underlying74 HI.out HZ0.out HZ1.out HZ2.out rfl (by decide) v4 _ _ rfl hO ⟨W4.heap.size, 0, none⟩ 1 1 ([staW S].map Value.string) rfl rfl hLit (strCells1 _) (by have e1 := HL1.out; have e2 := HL2.out; simp only [List.length_append, List.length_cons, List.length_nil]; unfold maxLen; omega) (by have e1 := HL1.out; have e2 := HL2.out; simp only [List.length_append, List.length_cons, List.length_nil]; omega) hK.2.1 ?_; intro v5 w5 hown hgrow hnil; have hK := BoxR.grown hK hgrow hO; have HO5 : Hid (OwnW w5 (w.heap.size + 1) v5 ((((([actW A, dirW D, protW P] ++ [wFrom]) ++ ws1) ++ [wTo]) ++ ws2) ++ [staW S])) := hide (OwnW.app hown rfl); clear hown hgrow hnil hO hLit; refine hKK.out _ _ hK ?_; clear hKK KK; try simp only [Act.put, List.setIfInBounds_toArray, List.set_cons_zero, List.set_cons_succ])
    | (refine wpLex_act rfl (by rfl) ?_; intro KK hKK; go_simp; (first
      | (go_at_call 56; refine (stateWords_walk _).mono ?_; rintro e w' ⟨rfl, hLs⟩; have hK := BoxR.next hK hLs.2.2; have hO := hO.next hLs.2.2)
      | (go_at_call 61; refine (word_sta S hS.out hLs.1 hLs.2.1).mono ?_; clear hLs; rintro e w' ⟨rfl, hbx⟩; have hK := BoxR.next hK hbx; have hO := hO.next hbx; clear hbx)
      | (rename World => W4; have hLit := one_str W4 (staW S) 9; have hO := hO.next ((Below.refl _ _).alloc (Nat.le_refl _) (.cells #[.string (staW S)] 9)); have hK := BoxR.next hK ((Below.refl _ _).alloc (Nat.le_refl _) (.cells #[.string (staW S)] 9)))); (try go_wp2_with fail); refine hKK.out _ _ hK ?_; clear hKK KK; try simp only [Act.put, List.setIfInBounds_toArray, List.set_cons_zero, List.set_cons_succ]))
  refine wpLex_nil ?_
  go_wp2_with fail
  go_ret
  exact ⟨_, rfl, HO5.out, hK.1⟩
end Go.Proofs.YtjojeplffefnpaaDoor
