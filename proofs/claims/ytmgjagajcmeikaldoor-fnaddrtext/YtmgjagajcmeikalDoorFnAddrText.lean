/-
At every input the law FnAddrText of the landed program answers true, and its arguments read afterwards as before.
Condition: the package-level tables that the card lists are as the program lays them (the card ties them to the text, within the pruned copy).
-/
import Derived.Test.YtmgjagajcmeikalDoorRows
import Derived.WalkKit
import Derived.ProofKit
import Derived.OpenShut
import Derived.Test.YtmgjagajcmeikalDoorTwk
import Derived.Test.YtmgjagajcmeikalDoorLwm
import Derived.Test.YtmgjagajcmeikalDoorDpf
import Derived.ShutString
import Derived.ChangeOld
import Derived.Below
import Derived.Test.YtmgjagajcmeikalDoorCards
import Derived.Test.YtmgjagajcmeikalDoorTie
import Derived.Lib.LaidTab
import Derived.Stop.LaidErr
import Derived.LaidMore
import Derived.SevenTiedAt
import Derived.LaidLaws
import Derived.LaidHandle
namespace Go.Proofs.YtmgjagajcmeikalDoor
open Go.ChangeShapes Go.WideShapes Go.ChangeAt Go.RowKit
set_option linter.unusedVariables false
set_option maxHeartbeats 8000000 in
set_option maxRecDepth 100000 in
theorem walkFnAddrText (a0 : Option Addr) (len0 cap0 : Nat) (z0 : List Int) (w : World) (w0 : IsRow .u8 w a0 len0 cap0 z0) (ht : Lib.TabIs Tryd.prog w "internal/strconv.uint64pow10" .u64 Lib.pow10Tab) :
    Calls Tryd.prog 3 #[.slice a0 len0 cap0] w fun e w' => e = .returned (.bool true) ∧ Below w.heap.size w w' := by
  obtain ⟨ys, hn, ha⟩ := w0.arr
  have HN := hide hn
  have HA := hide ha
  have HT := hide (Lib.tabBelow_of_tabIs ht)
  clear hn ha w0 ht
  by_cases hbig : 1048576 < len0
  · go_enter Tryd.func3, Tryd.ntmps3
    go_wp2
    go_ret
    exact ⟨rfl, Below.refl _ _⟩
  · have hyl : ys.length ≤ 2097152 := by rw [HN.out]; omega
    go_enter Tryd.func3, Tryd.ntmps3
    go_wp2_with fail
    refine (lwBegin_walk _ _ _ _ ys _ HN.out HA.out (by omega) (by omega) (by omega)).mono ?_
    rintro e w1 ⟨st, rfl, hs0, hs1, hb1⟩
    have HS := hide (src_new (t := 25) (cap := cap0) HN.out (HA.out.below hb1 (Nat.le_refl _)) hs0 hs1)
    have hg : w.heap.size ≤ w1.heap.size := hb1.size
    have hba := (Below.refl w1.heap.size w1).alloc (Nat.le_refl _) (.cells #[.slice a0 len0 cap0, .int .i64 0, .int .u64 st] 25)
    have hbel := hb1.trans (hba.mono hg)
    clear hb1 hba
    go_wp2_with fail
    generalize w1.alloc (.cells #[.slice a0 len0 cap0, .int .i64 0, .int .u64 st] 25) = W1 at *
    refine (lwNext_walk _ _ ys _ HS.out (by omega) (by omega) hyl).mono ?_
    rintro e w3 ⟨r3, rfl, p3, q3, hg3, hs3⟩
    have HS3 := hide hs3
    clear hs3 HS
    go_wp2_with fail
    refine (lwNext_walk _ _ ys _ HS3.out (by omega) (by omega) hyl).mono ?_
    rintro e w4 ⟨r4, rfl, p4, q4, hg4, hs4⟩
    have HS4 := hide hs4
    clear hs4 HS3
    go_wp2_with fail
    refine (lwNext_walk _ _ ys _ HS4.out (by omega) (by omega) hyl).mono ?_
    rintro e w5 ⟨r5, rfl, p5, q5, hg5, hs5⟩
    have hb5 : Below w.heap.size w w5 := hbel.trans ((Below.refl _ _).grown (grown_trans (grown_trans hg3 hg4) hg5) hbel.size (fun k hk => by cases hk; exact hg))
    clear hbel hg3 hg4 hg5 hs5 HS4 hg
    have hA : adrB (r3 * 2) = true := adrB_iff.2 ⟨by omega, by omega⟩
    have hM : macOKB (r4 * 16777216 + r5) = true := macOKB_iff.2 ⟨by omega, by omega⟩
    go_wp2_with fail
    generalize r3 * 2 = A at *
    generalize r4 * 16777216 + r5 = M at *
    have HAD := hide hA
    have HMA := hide hM
    clear hA hM p3 q3 p4 q4 p5 q5 hs0 hs1
    refine (showAI_yes A _ HAD.out (tab_later HT.out hb5 hb5.size)).mono ?_
    rintro e w6 ⟨rfl, hb6⟩
    have C7 := hide (fun w => readShow A w HAD.out)
    have HSA : Hid (showA A = showA A) := hide rfl
    generalize showA A = tA at *
    go_wp2_with fail
    refine (C7.out _).mono ?_
    rintro e w7 ⟨rfl, hb7⟩
    go_wp2_with fail
    refine (showMacU M _ HMA.out).mono ?_
    rintro e w8 ⟨rfl, hb8⟩
    have hb08 : Below w.heap.size w w8 := ((hb5.trans (hb6.mono hb5.size)).trans (hb7.mono (Nat.le_trans hb5.size hb6.size))).trans (hb8.mono (Nat.le_trans hb5.size (Nat.le_trans hb6.size hb7.size)))
    clear hb5 hb6 hb7 hb8 C7 HSA
    obtain ⟨W9, cap9, hcv, HZ⟩ := conv_row w8 (macU M)
    have hl17 : (macU M).length = 17 := rfl
    rw [hl17] at hcv
    have HL : Hid (((macU M).map (fun b => (b.toNat : Int))).length = 17) := hide rfl
    have HU : Hid (∀ j, 0 ≤ ((macU M).map (fun b => (b.toNat : Int))).getD j 0 ∧ ((macU M).map (fun b => (b.toNat : Int))).getD j 0 ≤ 255) := hide (fun j => by
      rw [List.getD_eq_getElem?_getD, List.getElem?_map]
      cases (macU M)[j]? with
      | none => simp
      | some b => simp; have := b.toNat_lt; omega)
    have HE : Hid (uz ((macU M).map (fun b => (b.toNat : Int))) 17 = (macUp M).map (fun b => (b.toNat : Int))) := hide (by
      unfold uz macUp
      rw [List.take_of_length_le (by rw [List.length_map]; exact Nat.le_refl _), List.drop_eq_nil_of_le (by rw [List.length_map]; exact Nat.le_refl _), List.append_nil, List.map_map, List.map_map]
      apply List.map_congr_left
      intro b _
      exact (upB_nat b).symm)
    have HZ0 : Hid (RowZ w8 W9 (uz ((macU M).map (fun b => (b.toNat : Int))) 0)) := hide HZ
    clear HZ hl17
    generalize (macU M).map (fun b => (b.toNat : Int)) = us at *
    generalize bs (macU M) = tM at *
    go_wp2_with fail
    go_loopw [13] (fun t w2 => ∃ i : Nat, i ≤ 17 ∧ t = .int .i64 i ∧ Hid (RowZ w8 w2 (uz us i))) (fun t _ => 17 - (intOf t).toNat)
    case atStart => exact ⟨0, by omega, rfl, HZ0⟩
    case round =>
      obtain ⟨i, hi, rfl, HR⟩ := hrel
      by_cases hlt : i < 17
      · have hiu : i < us.length := by rw [HL.out]; exact hlt
        obtain ⟨hc, hf⟩ := HR.out.2.2 i (by rw [uz_len]; exact hiu)
        rw [uz_get us i hiu] at hc
        have hz := HU.out i
        have HST := hide (fun z => HR.out.store i z (by rw [uz_len]; exact hiu))
        have HSET := hide (uz_set us i hiu)
        have HSAME := hide (uz_same us i hiu)
        generalize us.getD i 0 = z at *
        by_cases hlo : 97 ≤ z
        · by_cases hhi : z ≤ 102
          · have HV : Hid (upZ z = z - 32) := hide (by unfold upZ; rw [if_pos ⟨hlo, hhi⟩])
            go_wp2_with fail
            exact ⟨⟨i + 1, by omega, by go_num, hide (by rw [← HSET.out, HV.out]; exact HST.out _)⟩, by simp [intOf]; omega⟩
          · have HV : Hid (upZ z = z) := hide (by unfold upZ; rw [if_neg (by omega)])
            go_wp2_with fail
            exact ⟨⟨i + 1, by omega, by go_num, hide (by rw [HSAME.out HV.out]; exact HR.out)⟩, by simp [intOf]; omega⟩
        · have HV : Hid (upZ z = z) := hide (by unfold upZ; rw [if_neg (by omega)])
          go_wp2_with fail
          exact ⟨⟨i + 1, by omega, by go_num, hide (by rw [HSAME.out HV.out]; exact HR.out)⟩, by simp [intOf]; omega⟩
      · have hi' : i = 17 := by omega
        subst hi'
        have hconv : (convert 22 9 (.slice (some ⟨w8.heap.size, 0, none⟩) 17 cap9)).run Tryd.prog wr = .ok (.string (bs (macUp M))) wr := by
          refine run_convert_bytes_back (P := Tryd.prog) wr 22 9 5 ⟨w8.heap.size, 0, none⟩ cap9 (macUp M) Tryd.underlying22 Tryd.underlying5 Tryd.underlying9 (fun j hj => ?_)
          have hc := (HR.out.2.2 j (by rw [uz_len, HL.out]; exact hj)).1
          rw [Addr.add_lit, Nat.zero_add, hc, HE.out, List.getD_eq_getElem?_getD, List.getElem?_map, List.getElem?_eq_getElem hj]
          rfl
        have hbr : Below w.heap.size w wr := hb08.trans (HR.out.1.mono hb08.size)
        have C10 := hide (fun w => readMacUp M w HMA.out)
        generalize bs (macUp M) = tU at *
        clear HE HZ0 HR HL HU hcv hlt hi
        go_wp2_with fail
        refine (C10.out _).mono ?_
        rintro e w10 ⟨rfl, hb10⟩
        have hb010 : Below w.heap.size w w10 := hbr.trans (hb10.mono hbr.size)
        have HA10 := hide (HA.out.below hb010 (Nat.le_refl _))
        clear hconv hbr hb10 C10 hb08
        go_wp2_with fail
        refine (drawRead_walk _ _ _ ys _ HN.out HA10.out (by omega)).mono ?_
        rintro e w11 ⟨r, rfl, hr, hb11⟩
        have hb011 : Below w.heap.size w w11 := hb010.trans (hb11.mono hb010.size)
        have hll : r.data.toList.length ≤ 1048576 := by rw [← bs_size, bs_data]; omega
        have C12 := hide (fun w => specPref_walk r.data.toList w hll)
        have C13 := hide (fun w => pref_walk r.data.toList w hll)
        rw [bs_data] at C12 C13
        have HOK : Hid ((pfC r.data.toList = 6) ∨ (pfC r.data.toList = 0 ∧ spT (pfA r.data.toList) (pfB r.data.toList) = r ∧ spK (pfA r.data.toList) (pfB r.data.toList) = 0)) := hide (by
          cases h : pfOK r.data.toList with
          | false => exact .inl (pf_no h).2.2
          | true =>
            have hs := showP_read h
            have hp : prefB (pfA r.data.toList) (pfB r.data.toList) = true := by
              unfold pfOK at h
              split at h
              · rename_i a b e
                simp only [Bool.and_eq_true] at h
                obtain ⟨p1, p2, _⟩ := pf_yes e (by unfold pfOK; rw [e]; simp only [h.1.1, h.1.2, h.2]; rfl)
                rw [p1, p2]; exact h.2
              · cases h
            refine .inr ⟨?_, ?_, ?_⟩
            · unfold pfC; rw [h]; rfl
            · unfold spT; rw [hp, hs, bs_data]; rfl
            · unfold spK; rw [hp]; rfl)
        have C14 := hide (fun w ht => implSP (pfA r.data.toList) (pfB r.data.toList) w ht)
        have heq := eqPref (pfA r.data.toList) (pfB r.data.toList) (pfA r.data.toList) (pfB r.data.toList)
        clear hb010 hb11 HA10
        generalize pfA r.data.toList = x at *
        generalize pfB r.data.toList = y at *
        generalize pfC r.data.toList = z at *
        generalize spT x y = tP at *
        generalize spK x y = kP at *
        go_wp2_with fail
        refine (C12.out _).mono ?_
        rintro e w12 ⟨rfl, hb12⟩
        have hb012 : Below w.heap.size w w12 := hb011.trans (hb12.mono hb011.size)
        obtain ⟨hbB, hc0, hc1⟩ := box_facts w12 (.int .i64 x) (.int .i64 y) 36
        have hsB : w12.heap.size < (w12.alloc (.cells #[.int .i64 x, .int .i64 y] 36)).heap.size := by rw [World.size_alloc]; omega
        go_wp2_with fail
        generalize w12.alloc (.cells #[.int .i64 x, .int .i64 y] 36) = W12 at *
        have hb0B : Below w.heap.size w W12 := hb012.trans (hbB.mono hb012.size)
        refine (C13.out _).mono ?_
        rintro e w13 ⟨rfl, hb13⟩
        have hs13 := hb13.size
        have hb013 : Below w.heap.size w w13 := hb0B.trans (hb13.mono hb0B.size)
        have g0 : w13.cell? ⟨w12.heap.size, 0, none⟩ = some (.int .i64 x) := by rw [hb13.cell (p := ⟨w12.heap.size, 0, none⟩) hsB]; exact hc0
        have g1 : w13.cell? ⟨w12.heap.size, 1, none⟩ = some (.int .i64 y) := by rw [hb13.cell (p := ⟨w12.heap.size, 1, none⟩) hsB]; exact hc1
        obtain ⟨hbC, k0, k1⟩ := box_facts w13 (.int .i64 x) (.int .i64 y) 36
        have j0 : (w13.alloc (.cells #[.int .i64 x, .int .i64 y] 36)).cell? ⟨w12.heap.size, 0, none⟩ = some (.int .i64 x) := by rw [hbC.cell (p := ⟨w12.heap.size, 0, none⟩) (by show w12.heap.size < w13.heap.size; omega)]; exact g0
        have j1 : (w13.alloc (.cells #[.int .i64 x, .int .i64 y] 36)).cell? ⟨w12.heap.size, 1, none⟩ = some (.int .i64 y) := by rw [hbC.cell (p := ⟨w12.heap.size, 1, none⟩) (by show w12.heap.size < w13.heap.size; omega)]; exact g1
        have hb0C : Below w.heap.size w (w13.alloc (.cells #[.int .i64 x, .int .i64 y] 36)) := hb013.trans (hbC.mono hb013.size)
        clear g0 g1 hc0 hc1 hb011 hb012 hb12 hbB hb13 hb0B hs13 hsB hbC
        have hxx : (x == x && y == y) = true := by simp
        rw [hxx] at heq
        go_wp2_with fail
        generalize w13.alloc (.cells #[.int .i64 x, .int .i64 y] 36) = W13 at *
        refine (C14.out _ (tab_later HT.out hb0C hb0C.size)).mono ?_
        rintro e w14 ⟨rfl, hb14⟩
        have hb014 : Below w.heap.size w w14 := hb0C.trans (hb14.mono hb0C.size)
        rcases HOK.out with hz | ⟨hz, ht1, hk1⟩
        · subst hz
          go_wp2_with fail
          go_ret
          exact ⟨rfl, hb014⟩
        · subst hz ht1 hk1
          go_wp2_with fail
          go_ret
          exact ⟨rfl, hb014⟩

theorem own : ownKnob Tryd.prog.godebug = none := by kernel_rfl
theorem laidOut : laidOutB Tryd.prog = true := by kernel_rfl
theorem gTab : Tryd.prog.globalNamed "internal/strconv.uint64pow10" = some 1 := by kernel_rfl
theorem gTabType : (Tryd.prog.globals[1]?).map (·.type) = some 85 := by kernel_rfl
theorem cellsT : Tryd.prog.cellsOf 85 = 20 := by kernel_rfl
theorem cellsE : Tryd.prog.cellsOf 23 = 1 := by kernel_rfl
/-- What the row's list gives: the table's cells hold its numbers. -/
theorem tabOf {W : World} (h : laidMetH Tryd.prog Rows.fnAddrTextRow.laid W) : Lib.TabIs Tryd.prog W "internal/strconv.uint64pow10" .u64 Lib.pow10Tab := by
  have h' : laidMet Tryd.prog Rows.fnAddrTextRow.laid W := h
  exact Lib.tabIs_of_head gTab gTabType Tryd.underlying85 Tryd.underlying23 cellsE cellsT h'.tail.tail
theorem door_met (os : Os) (args : Array Value) : laidMetH Tryd.prog Rows.fnAddrTextRow.laid ((World.doorLaid Tryd.prog 400 os).forCall (fun _ _ => 0) ⟨#[], args, []⟩).memory :=
  laidMetH_of_parts3 (fuel := 8) (laidMet_of_run' 8 (by kernel_rfl) (by kernel_rfl)) (by kernel_rfl) (by kernel_rfl)
set_option maxRecDepth 100000 in
theorem fnAddrText_lifted (os : Os) (started : os.Started) (H : Type) (enc : TypeId × Value → H) :
    ReturnsInHanded {} Tryd.checked os 3 .any (fun w args => (Rows.fnAddrTextSpec.pre enc Tryd.prog Tryd.f3 [] false w args ∧ laidMetH Tryd.prog Rows.fnAddrTextRow.laid w) ∧ sizedMet enc Tryd.prog Tryd.f3 (OpenSpec.ofChange Rows.fnAddrTextSpec) false w args) (Rows.fnAddrTextSpec.post enc Tryd.prog Tryd.f3 false true false false) := by
  refine returnsInHanded_of_change_and (C := Tryd.checked) (X := fun w _ => laidMetH Tryd.prog Rows.fnAddrTextRow.laid w) (fun _ _ _ hh h => h.of_heap hh) own started (by kernel_rfl) Tryd.func3
    (ChangeSpec.witness_shaped (enc := enc) (C := Tryd.checked) (os := os) (X := fun w _ => laidMetH Tryd.prog Rows.fnAddrTextRow.laid w) false (World.doorLaid Tryd.prog 400 os) #[.slice none 0 0] 8 rfl (World.shaped_of_RefB (by kernel_rfl) (by kernel_rfl)) (by kernel_rfl) (by kernel_rfl) (by kernel_rfl) (door_met os _)) ?_
  intro W base args ds gs before hval0 hW _ _ hL _
  have hval : ∀ (j : Nat) t v, Tryd.f3.params[j]? = some t → args[j]? = some v → Value.okWide Tryd.prog W .any base t v := hval0
  have hW' := hW
  obtain ⟨p, q, hA0, hV, rfl, hfz, hnd⟩ := hW
  have hA : DataW.TrodAll enc Tryd.prog W 0 (fun _ => true) true Tryd.f3.params.toList args.toList ds p := hA0
  rw [Tryd.params3] at hA hval
  obtain ⟨v0, vs0, d0, ds0, p0, q0, hargs, rfl, rfl, h0, r0⟩ := trodAll_cons hA
  obtain ⟨rfl, rfl, rfl⟩ := trodAll_nil r0
  obtain rfl : args = #[v0] := by cases args; simp_all
  obtain ⟨rfl, rfl⟩ := trodVars_none hV
  obtain ⟨a0, len0, cap0, rfl⟩ := okWide_slice Tryd.underlying22 (hval 0 22 v0 rfl rfl)
  have k0 := h0
  have lt0 : ∀ x ∈ p0, x.block < W.heap.size := by obtain ⟨m, hm⟩ := k0; exact DataW.trod_lt m _ _ _ hm
  obtain ⟨z0, w0⟩ : ∃ zs, IsRow .u8 W a0 len0 cap0 zs := by
    obtain ⟨fuel, hf⟩ := h0
    rcases open_ints Tryd.underlying22 Tryd.underlying5 (by kernel_rfl) hf with ⟨hcs, _⟩ | ⟨x, l, c, zs, hcs, _, hl, hm, hz, _, hcell, hwz⟩
    · simp [Value.cells] at hcs
      obtain ⟨rfl, rfl, rfl⟩ := hcs
      exact ⟨[], .inl ⟨rfl, rfl, rfl, rfl⟩⟩
    · simp [Value.cells] at hcs
      obtain ⟨rfl, rfl, rfl⟩ := hcs
      exact ⟨zs, .inr ⟨_, rfl, hl, hm, by simpa using hz, hcell, hwz⟩⟩
  clear hA0 hval0
  refine (walkFnAddrText a0 len0 cap0 z0 W w0 (tabOf hL)).mono fun e W' ⟨he, bel⟩ => ?_
  subst he
  exact ⟨_, rfl, _, _, _, [], _, [], hW', trodAll_mk1 (shut_bool Tryd.underlying4 _), (trodAll_cons_mk (Below.trod laidOut (by kernel_rfl) (of_decide_eq_true (by kernel_rfl)) k0 bel lt0) trodAll_mk0), rfl, bel.frame _, fun h => by cases h⟩
theorem fnAddrText_said : Rows.FnAddrTextSaid :=
  OpenClaim.holds_of_wide 3 Tryd.f3 rfl rfl rfl rfl rfl rfl rfl ⟨rfl, rfl, rfl, rfl, rfl⟩ rfl rfl rfl rfl rfl (by kernel_rfl) Tryd.func3 (by kernel_rfl)
    (of_decide_eq_true (by kernel_rfl)) (by unfold Func.isWrapper; first | (rw [if_pos (by decide +kernel)]; kernel_rfl) | (rw [if_neg (by decide +kernel)]; exact ⟨rfl, rfl⟩))
    (fun os started H enc _ => fnAddrText_lifted os started H enc)
theorem fnAddrText_plain (f : FuncId) (fn : Func) (hf : Tryd.pinned.checked.prog.funcNamed "loop.example/g00003/laws.FnAddrText" = some f) (hfn : Tryd.pinned.checked.prog.funcs[f]? = some fn) :
    false = Tryd.pinned.checked.prog.looks [] ∧ ∀ (j : Nat) t, fn.params[j]? = some t → Tryd.pinned.checked.prog.wantsStandIn t = false := by
  obtain rfl : f = 3 := Option.some.inj ((show Tryd.prog.funcNamed "loop.example/g00003/laws.FnAddrText" = some 3 by kernel_rfl).symm.trans hf) |>.symm
  obtain rfl : fn = Tryd.f3 := (Option.some.inj (Tryd.func3.symm.trans hfn)).symm
  refine ⟨by kernel_rfl, fun j t ht => ?_⟩
  rw [Tryd.params3] at ht
  have hm : t ∈ [22] := by simpa using Array.mem_of_getElem? ht
  have hall : ([22].all fun u => !Tryd.prog.wantsStandIn u) = true := by kernel_rfl
  exact (show Tryd.prog.wantsStandIn t = false by simpa using List.all_eq_true.1 hall t hm)
theorem fnAddrText_holds : Rows.FnAddrTextCardSaid :=
  Claim7.holds_tied_plain_at .later [] _ _ _ _ fnAddrText_said (fun _ h => by cases h) (by kernel_rfl) (fun _ h => by cases h) fnAddrText_row_tie rfl ⟨rfl, rfl⟩ (by kernel_rfl) rfl fnAddrText_plain (by kernel_rfl)
end Go.Proofs.YtmgjagajcmeikalDoor
