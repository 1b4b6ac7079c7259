/-
Contracts of functions of this seat.
-/
import Derived.Test.YtgegnkboibgbgaaRows
import Derived.WalkKit
import Derived.ProofKit
import Derived.OpenShut
import Derived.Test.YtgegnkboibgbgaaSrl
namespace Go.Proofs.Ytgegnkboibgbgaa
open Go.ChangeShapes Go.WideShapes Go.ChangeAt Go.RowKit
set_option linter.unusedVariables false
set_option maxRecDepth 100000
/-- What is wanted of reading routes. -/
def RdPu (w : World) (L : List Int) (C N : Int) (e : Ending) (w' : World) : Prop := ∃ v, e = .returned (.tuple #[v, .int .i64 C, .int .i64 N]) ∧ OwnI w' w.heap.size 45 12 v (L.length / 12) L ∧ Below w.heap.size w w'
theorem Try.infoRu : (Try.prog.info? 45).map (fun i => (i.zero, i.size, i.bytes)) = some (some (.agg #[.int .i64 0, .int .i64 0, .int .i64 0, .int .i64 0, .int .i64 0, .int .i64 0, .int .i64 0, .int .i64 0, .int .i64 0, .int .i64 0, .int .i64 0, .int .i64 0]), 12, 96) := by kernel_rfl
set_option maxHeartbeats 16000000 in
theorem specReadU_long (l : List UInt8) (w : World) (hl : 20000 < l.length) (hl2 : l.length ≤ 1048576) :
    Calls Try.prog 10 #[.string (bs l)] w fun e w' => RdPu w [] 7 0 e w' := by
  have hsz := bs_size l
  have h1 : (20000 : Int) < ((bs l).size : Int) := by omega
  generalize bs l = s at *
  go_enter Try.func10, Try.ntmps10
  go_wp2_with fail
  exact bodyPost_ret (v := .tuple #[.slice none 0 0, .int .i64 7, .int .i64 0]) (by simp [results, Try.results10, go_sem]) rfl ⟨_, rfl, OwnI.nil _ _ _ _, Below.refl _ _⟩
set_option maxHeartbeats 16000000 in
theorem specReadU_walk (l : List UInt8) (w : World) (hl : l.length ≤ 20000) (X : List Int × Int × Int) (hX : X = rdL ruP 64 ((splitL 10 l).map lineW) 0 [] 0) :
    Calls Try.prog 10 #[.string (bs l)] w fun e w' => RdPu w X.1 X.2.1 X.2.2 e w' := by
  obtain ⟨iR, hi, hz0, hz1, hz2⟩ := info_parts Try.infoRu
  have HI := hide hi
  have HI0 := hide hz0
  have HI1 := hide hz1
  have HI2 := hide hz2
  clear hi hz0 hz1 hz2
  have hsz := bs_size l
  have h1 : ¬ (20000 : Int) < ((bs l).size : Int) := by omega
  have HC := hide (fun W => l08Lines_walk l W hl)
  have HMEM : Hid (∀ ws ∈ (splitL 10 l).map lineW, ∀ p ∈ ws, p.length ≤ 1048576) := hide (fun ws hws p hp => by
    obtain ⟨q, hq, rfl⟩ := List.mem_map.1 hws
    have := lineW_mem hp
    have := splitL_mem 10 l q hq
    omega)
  have HLEN : Hid (((splitL 10 l).map lineW).length ≤ 20001) := hide (by rw [List.length_map]; have := splitL_len 10 l; omega)
  have HPOS : Hid (0 < ((splitL 10 l).map lineW).length) := hide (by rw [List.length_map]; exact splitL_pos 10 l)
  have HX := hide hX
  clear hX hl
  generalize (splitL 10 l).map lineW = Lw at *
  generalize bs l = s at *
  go_enter Try.func10, Try.ntmps10
  go_wp2_with fail
  refine (HC.out w).mono ?_
  rintro e W1 ⟨vl, rfl, hrow, hb1⟩
  obtain ⟨gl, capl, hvl, hgl, _, _, _⟩ := hrow.at HPOS.out
  obtain ⟨N, hN, HN⟩ : ∃ N, Lw.length = N ∧ Hid (Lw.length = N) := ⟨_, rfl, hide rfl⟩
  rw [hN] at hvl
  subst hvl
  have hN2 : N ≤ 20001 := by have := HLEN.out; omega
  have HR0 := hide (hrow.next ((Below.refl _ _).alloc (Nat.le_refl _) (.cells #[] 45)))
  have HB0 := hide (hb1.alloc hb1.size (.cells #[] 45))
  have HO0 : Hid ((W1.alloc (.cells #[] 45)).ownsRow w.heap.size 45 12 (.slice (some ⟨W1.heap.size, 0, none⟩) 0 0) 0 (ival [])) := hide (World.ownsRow_lit (base := w.heap.size) (e := 45) (size := 12) W1 #[] 0 hb1.size (by decide) rfl)
  clear hrow hb1 hgl hN HC
  go_wp2_with fail
  generalize W1.alloc (.cells #[] 45) = W2 at *
  go_loopw [6, 7] (fun o t w2 => ∃ (i n : Nat) (acc : List Int), i ≤ N ∧ n ≤ 64 ∧ t = .int .i64 i ∧ Hid (w2.ownsRow w.heap.size 45 12 o n (ival acc)) ∧ Hid (WRow w2 w.heap.size (.slice (some ⟨gl, 0, none⟩) N capl) Lw) ∧ Hid (Below w.heap.size w w2) ∧ Hid (X = rdL ruP 64 (Lw.drop i) n acc i)) (fun _ t _ => N - (intOf t).toNat)
  case atStart => exact ⟨0, 0, [], Nat.zero_le _, Nat.zero_le _, rfl, HO0, HR0, HB0, HX⟩
  case round =>
    obtain ⟨i, n, acc, hi, hn, rfl, HO, HR, HB, HE⟩ := hrel
    clear HO0 HR0 HB0 HX
    obtain ⟨ao, co, rfl⟩ := row_form HO.out
    by_cases hlt : i < N
    · obtain ⟨ws, hws⟩ : ∃ ws, Lw[i]? = some ws := ⟨_, List.getElem?_eq_getElem (by have := HN.out; omega)⟩
      have HST := hide (rdL_at (parse := ruP) (most := 64) (n := n) (acc := acc) hws)
      obtain ⟨gl', capl', hvl, hgl, _, _, hcells⟩ := HR.out.at HPOS.out
      simp only [Value.slice.injEq, Option.some.injEq, Addr.mk.injEq, and_true] at hvl
      obtain ⟨hgg, -, hcc⟩ := hvl
      subst hgg hcc
      obtain ⟨aw, m, cw, hcell, hm, how⟩ := hcells i ws hws
      have HWM := hide (HMEM.out ws (List.mem_of_getElem? hws))
      clear hcells hws
      cases ws with
      | nil =>
        have hm0 : m = 0 := hm
        subst hm0
        have HE2 : Hid (X = rdL ruP 64 (Lw.drop (i + 1)) n acc (i + 1)) := hide (by rw [HE.out, HST.out]; rfl)
        clear how hm hgl
        go_wp2_with fail
        exact ⟨⟨i + 1, n, acc, by omega, hn, by go_num, HO, HR, HB, HE2⟩, by simp [intOf]; omega⟩
      | cons p r =>
        obtain ⟨gw, haw, harr, hmc⟩ := how.arrS (by simp)
        subst haw
        have hm1 : 0 < m := by rw [hm]; simp
        have hmz : ((m : Int) == 0) = false := by simp; omega
        have HE1 : Hid (X = match ruP (p :: r) with
          | none => ([], 19, ((i + 1 : Nat) : Int))
          | some zs => if 64 ≤ n then ([], 8, ((i + 1 : Nat) : Int)) else rdL ruP 64 (Lw.drop (i + 1)) (n + 1) (acc ++ zs) (i + 1)) := hide (by rw [HE.out, HST.out]; rfl)
        have CR := hide (specRule_walk p r gw 0 m cw wr hm.symm harr hmc HWM.out)
        clear hm how harr HE HST HWM hgl
        go_wp2_with fail
        refine CR.out.mono ?_
        rintro e w1 ⟨r0, r1, r2, r3, r4, r5, r6, r7, r8, r9, r10, r11, rfl, hv, hb1⟩
        have HO1 := hide (row_kept HO.out (fun b eb => hb1.block b (row_lt HO.out eb).2))
        have HR1 := hide (HR.out.next hb1)
        have HB1 := hide (HB.out.trans (hb1.mono HB.out.size))
        clear hb1 CR hcell
        cases hp : ruP (p :: r) with
        | none =>
          have HX1 : Hid (X = ([], 19, ((i + 1 : Nat) : Int))) := hide (by rw [HE1.out]; rw [hp])
          have HB2 := hide (HB1.out.alloc HB1.out.size (.cells #[.int .i64 r0, .int .i64 r1, .int .i64 r2, .int .i64 r3, .int .i64 r4, .int .i64 r5, .int .i64 r6, .int .i64 r7, .int .i64 r8, .int .i64 r9, .int .i64 r10, .int .i64 r11] 45))
          clear hv hp
          go_wp2_with fail
          exact bodyPost_ret (v := .tuple #[.slice none 0 0, .int .i64 19, .int .i64 ((i : Int) + 1)]) (by simp [results, Try.results10, go_sem]) rfl (by rw [HX1.out]; exact ⟨_, rfl, (by simpa using OwnI.nil _ w.heap.size 45 12), HB2.out⟩)
        | some v =>
          have hve := hv v hp
          subst hve
          have HX1 : Hid (X = if 64 ≤ n then ([], 8, ((i + 1 : Nat) : Int)) else rdL ruP 64 (Lw.drop (i + 1)) (n + 1) (acc ++ [r0, r1, r2, r3, r4, r5, r6, r7, r8, r9, r10, r11]) (i + 1)) := hide (by rw [HE1.out]; rw [hp])
          clear hv hp HE1
          have HB2 := hide (HB1.out.alloc HB1.out.size (.cells #[.int .i64 r0, .int .i64 r1, .int .i64 r2, .int .i64 r3, .int .i64 r4, .int .i64 r5, .int .i64 r6, .int .i64 r7, .int .i64 r8, .int .i64 r9, .int .i64 r10, .int .i64 r11] 45))
          by_cases h64 : 64 ≤ n
          · have h64i : (64 : Int) ≤ (n : Int) := by omega
            have HX2 : Hid (X = ([], 8, ((i + 1 : Nat) : Int))) := hide (by rw [HX1.out, if_pos h64])
            go_wp2_with fail
            exact bodyPost_ret (v := .tuple #[.slice none 0 0, .int .i64 8, .int .i64 ((i : Int) + 1)]) (by simp [results, Try.results10, go_sem]) rfl (by rw [HX2.out]; exact ⟨_, rfl, (by simpa using OwnI.nil _ w.heap.size 45 12), HB2.out⟩)
          · have h64i : ¬ (64 : Int) ≤ (n : Int) := by omega
            have HX2 : Hid (X = rdL ruP 64 (Lw.drop (i + 1)) (n + 1) (acc ++ [r0, r1, r2, r3, r4, r5, r6, r7, r8, r9, r10, r11]) (i + 1)) := hide (by rw [HX1.out, if_neg h64])
            have hbx := (Below.refl w1.heap.size w1).alloc (Nat.le_refl _) (.cells #[.int .i64 r0, .int .i64 r1, .int .i64 r2, .int .i64 r3, .int .i64 r4, .int .i64 r5, .int .i64 r6, .int .i64 r7, .int .i64 r8, .int .i64 r9, .int .i64 r10, .int .i64 r11] 45)
            have HH := hide (show HoldV (w1.alloc (.cells #[.int .i64 r0, .int .i64 r1, .int .i64 r2, .int .i64 r3, .int .i64 r4, .int .i64 r5, .int .i64 r6, .int .i64 r7, .int .i64 r8, .int .i64 r9, .int .i64 r10, .int .i64 r11] 45)) w1.heap.size #[.int .i64 r0, .int .i64 r1, .int .i64 r2, .int .i64 r3, .int .i64 r4, .int .i64 r5, .int .i64 r6, .int .i64 r7, .int .i64 r8, .int .i64 r9, .int .i64 r10, .int .i64 r11] 45 from heap_alloc_new _ _)
            have HO2 := hide (row_kept HO1.out (fun b eb => hbx.block b (row_lt HO1.out eb).2))
            have HR2 := hide (HR1.out.next hbx)
            clear hbx HX1 HO1 HR1 HB1
            have q0 := HH.out.cell 0 _ rfl
            have q1 := HH.out.cell 1 _ rfl
            have q2 := HH.out.cell 2 _ rfl
            have q3 := HH.out.cell 3 _ rfl
            have q4 := HH.out.cell 4 _ rfl
            have q5 := HH.out.cell 5 _ rfl
            have q6 := HH.out.cell 6 _ rfl
            have q7 := HH.out.cell 7 _ rfl
            have q8 := HH.out.cell 8 _ rfl
            have q9 := HH.out.cell 9 _ rfl
            have q10 := HH.out.cell 10 _ rfl
            have q11 := HH.out.cell 11 _ rfl
            have sz1 := World.size_alloc w1 (.cells #[.int .i64 r0, .int .i64 r1, .int .i64 r2, .int .i64 r3, .int .i64 r4, .int .i64 r5, .int .i64 r6, .int .i64 r7, .int .i64 r8, .int .i64 r9, .int .i64 r10, .int .i64 r11] 45)
            have hb3 := (Below.refl (w1.alloc (.cells #[.int .i64 r0, .int .i64 r1, .int .i64 r2, .int .i64 r3, .int .i64 r4, .int .i64 r5, .int .i64 r6, .int .i64 r7, .int .i64 r8, .int .i64 r9, .int .i64 r10, .int .i64 r11] 45)).heap.size (w1.alloc (.cells #[.int .i64 r0, .int .i64 r1, .int .i64 r2, .int .i64 r3, .int .i64 r4, .int .i64 r5, .int .i64 r6, .int .i64 r7, .int .i64 r8, .int .i64 r9, .int .i64 r10, .int .i64 r11] 45))).alloc (Nat.le_refl _) (.cells #[.int .i64 r0, .int .i64 r1, .int .i64 r2, .int .i64 r3, .int .i64 r4, .int .i64 r5, .int .i64 r6, .int .i64 r7, .int .i64 r8, .int .i64 r9, .int .i64 r10, .int .i64 r11] 45)
            have HO3 := hide (row_kept HO2.out (fun b eb => hb3.block b (row_lt HO2.out eb).2))
            have HR3 := hide (HR2.out.next hb3)
            have HB3 := hide (HB2.out.trans (hb3.mono HB2.out.size))
            have HFC := hide (by have h := twelve_cells (w1.alloc (.cells #[.int .i64 r0, .int .i64 r1, .int .i64 r2, .int .i64 r3, .int .i64 r4, .int .i64 r5, .int .i64 r6, .int .i64 r7, .int .i64 r8, .int .i64 r9, .int .i64 r10, .int .i64 r11] 45)) r0 r1 r2 r3 r4 r5 r6 r7 r8 r9 r10 r11 45; rw [sz1] at h; exact h)
            clear hb3 HO2 HR2 HB2 sz1
            go_wp2_with (first | (at_builtin; refine wpList_append_own _ rfl _ _ 28 rfl w.heap.size 45 iR _ 12 96 Try.underlying28 HI.out HI0.out HI1.out HI2.out rfl (by decide) (.slice ao n co) _ _ rfl HO3.out ⟨w1.heap.size + 1, 0, none⟩ 1 1 (ival [r0, r1, r2, r3, r4, r5, r6, r7, r8, r9, r10, r11]) rfl rfl HFC.out (ival_one _) (by unfold maxLen; omega) (by omega) HB3.out.size ?_; intro v4 w4 hown hgrow hnil; have HO4 : Hid (w4.ownsRow w.heap.size 45 12 v4 (n + 1) (ival (acc ++ [r0, r1, r2, r3, r4, r5, r6, r7, r8, r9, r10, r11]))) := hide (by rw [ival_app]; exact hown); have HR4 := hide (HR3.out.keepTy HO3.out (by decide) (by decide) hgrow); have HB4 := hide (below_row HB3.out HO3.out (Nat.le_refl _) HB3.out.size hgrow); clear hown hgrow hnil))
            exact ⟨⟨i + 1, n + 1, _, by omega, by omega, by go_num, HO4, HR4, HB4, HX2⟩, by simp [intOf]; omega⟩
    · have hin : i = N := by omega
      have HX1 : Hid (X = (acc, 0, 0)) := hide (by rw [HE.out, rdL_end (by have := HN.out; omega)])
      have HL : Hid (acc.length / 12 = n) := hide (by have h := HO.out.1; rw [ival_len] at h; omega)
      subst hin
      go_wp2_with fail
      exact bodyPost_ret (v := .tuple #[.slice ao n co, .int .i64 0, .int .i64 0]) (by simp [results, Try.results10, go_sem]) rfl (by
        rw [HX1.out]
        refine ⟨_, rfl, ?_, HB.out⟩
        rw [HL.out]
        exact ownsAt.of_row HO.out)
end Go.Proofs.Ytgegnkboibgbgaa
