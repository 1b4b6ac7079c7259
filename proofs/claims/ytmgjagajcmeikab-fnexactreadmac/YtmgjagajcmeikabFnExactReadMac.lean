/-
At every input the law FnExactReadMac of the landed program answers true, and its arguments read afterwards as before.
No conditions.
-/
import Derived.Test.YtmgjagajcmeikabRows
import Derived.WalkKit
import Derived.ProofKit
import Derived.OpenShut
import Derived.Test.YtmgjagajcmeikabMac
import Derived.WalkMore
import Derived.Test.YtmgjagajcmeikabRows
import Derived.ShutString
import Derived.Below
namespace Go.Proofs.Ytmgjagajcmeikab
open Go.ChangeShapes Go.WideShapes Go.ChangeAt Go.RowKit
set_option linter.unusedVariables false
def pb (s : ByteArray) (j : Nat) : Int := hexv (ch s (3 * j)) * 16 + hexv (ch s (3 * j + 1))
def plist (s : ByteArray) (i : Nat) : List Int := (List.range 6).map (fun j => if j < i then pb s j else 0)
theorem plist_len (s : ByteArray) (i : Nat) : (plist s i).length = 6 := by unfold plist; simp
theorem plist_get (s : ByteArray) (i j : Nat) (hj : j < 6) : (plist s i)[j]? = some (if j < i then pb s j else 0) := by
  unfold plist; rw [List.getElem?_map, List.getElem?_range hj]; rfl
theorem plist_set (s : ByteArray) (i : Nat) (hi : i < 6) : (plist s i).set i (pb s i) = plist s (i + 1) := by
  apply List.ext_getElem?
  intro j
  by_cases hj : j < 6
  · by_cases e : j = i
    · subst e
      rw [List.getElem?_set_self (by rw [plist_len]; exact hi), plist_get s (j + 1) j hj, if_pos (by omega)]
    · rw [List.getElem?_set_ne (fun h => e h.symm), plist_get s i j hj, plist_get s (i + 1) j hj]
      by_cases h : j < i
      · rw [if_pos h, if_pos (by omega)]
      · rw [if_neg h, if_neg (by omega)]
  · rw [List.getElem?_eq_none (by rw [List.length_set, plist_len]; omega), List.getElem?_eq_none (by rw [plist_len]; omega)]
theorem plist_end (s : ByteArray) : tnum (plist s 6) = mval s 17 := by
  simp [tnum, plist, pb, mval, List.range_succ]
  omega
theorem plist_zero (s : ByteArray) : plist s 0 = [0, 0, 0, 0, 0, 0] := by simp [plist, List.range_succ]
theorem pb_bd {s : ByteArray} {j : Nat} (h1 : okAt s (3 * j) = true) (h2 : okAt s (3 * j + 1) = true) : 0 ≤ pb s j ∧ pb s j ≤ 255 := by
  rw [okAt_dig (by omega)] at h1 h2
  have a1 := of_decide_eq_true h1
  have a2 := of_decide_eq_true h2
  have b1 := hexv_bd (ch s (3 * j))
  have b2 := hexv_bd (ch s (3 * j + 1))
  unfold pb; omega
theorem or_low_u8 (x y : Int) (hx : 0 ≤ x) (hx1 : x ≤ 15) (hy : 0 ≤ y) (hy1 : y ≤ 15) : bits .or .u8 (x * 16) y = x * 16 + y :=
  bits_join .u8 8 (by decide) wraps_u8 4 (x * 16) y (by omega) (by show x * 16 % 16 = 0; omega) (by show x * 16 < 256; omega) hy (by show y < 16; omega) (by show y < 256; omega)
theorem or_zero_u8 (y : Int) (hy : 0 ≤ y) (hy1 : y ≤ 15) : bits .or .u8 0 y = y := by
  have h := or_low_u8 0 y (by omega) (by omega) hy hy1
  simpa using h
/-- The parts lie in block B; their bytes are zs. -/
def Parts (w0 w : World) (t : Nat) (zs : List Int) : Prop :=
  Below w0.heap.size w0 w ∧ w0.heap.size < w.heap.size ∧ zs.length = 6 ∧ w.ownsRow w0.heap.size t 1 (.slice (some ⟨w0.heap.size, 0, none⟩) 6 6) 6 (zs.map (Value.int .u8))
theorem Parts.start (w0 : World) (t : Nat) : Parts w0 (w0.alloc (.cells #[.int .u8 0, .int .u8 0, .int .u8 0, .int .u8 0, .int .u8 0, .int .u8 0] t)) t [0, 0, 0, 0, 0, 0] :=
  ⟨(Below.refl _ _).alloc (Nat.le_refl _) _, by rw [World.size_alloc]; omega, rfl, World.ownsRow_lit (base := w0.heap.size) (e := t) (size := 1) w0 #[.int .u8 0, .int .u8 0, .int .u8 0, .int .u8 0, .int .u8 0, .int .u8 0] 6 (Nat.le_refl _) (by decide) rfl⟩
theorem Parts.cell {w0 w : World} {t : Nat} {zs : List Int} (h : Parts w0 w t zs) {i : Nat} {z : Int} (hz : zs[i]? = some z) : w.cell? ⟨w0.heap.size, i, none⟩ = some (.int .u8 z) ∧ w.frozen? ⟨w0.heap.size, i, none⟩ = false := by
  have hi : i < 6 := by have := (List.getElem?_eq_some_iff.1 hz).1; rw [h.2.2.1] at this; exact this
  refine ⟨?_, h.2.2.2.frozenAt i⟩
  rw [h.2.2.2.cellAt i (by omega), List.getElem?_map, hz]; rfl
theorem Parts.store {w0 w : World} {t : Nat} {zs : List Int} (h : Parts w0 w t zs) (i : Nat) (z : Int) : Parts w0 (w.setCell ⟨w0.heap.size, i, none⟩ (.int .u8 z)) t (zs.set i z) := by
  refine ⟨h.1.setCell (p := ⟨w0.heap.size, i, none⟩) (Nat.le_refl _) _, by simpa using h.2.1, by rw [List.length_set]; exact h.2.2.1, ?_⟩
  have := (h.2.2.2.stored i (.int .u8 z)).1
  rw [List.map_set]; exact this
theorem Parts.arr {w0 w : World} {t : Nat} {zs : List Int} (h : Parts w0 w t zs) (hz : ∀ z ∈ zs, 0 ≤ z ∧ z ≤ 255) : Arr w (some ⟨w0.heap.size, 0, none⟩) zs := by
  refine ⟨hz, fun j hj => ⟨_, 0, rfl, h.2.1, ?_⟩⟩
  have h1 : zs[j]? = some (zs.getD j 0) := by rw [List.getD_eq_getElem?_getD, List.getElem?_eq_getElem hj]; rfl
  rw [Nat.zero_add]; exact (h.cell h1).1
set_option maxHeartbeats 4000000 in
theorem mac_walk (s : ByteArray) (w : World) (h17 : s.size = 17) :
    Calls Try.prog 10 #[.string s] w fun e w' => e = .returned (.tuple #[.int .i64 (macX s), .int .i64 (macC s)]) ∧ Below w.heap.size w w' := by
  go_enter Try.func10, Try.ntmps10
  go_wp2_with fail
  go_step3
  go_wp2_with fail
  go_step3
  go_wp2_with fail
  have HP0 : Hid (Parts w (w.alloc (.cells #[.int .u8 0, .int .u8 0, .int .u8 0, .int .u8 0, .int .u8 0, .int .u8 0] 37)) 37 (plist s 0)) := hide (by rw [plist_zero]; exact Parts.start w _)
  generalize w.alloc (.cells #[.int .u8 0, .int .u8 0, .int .u8 0, .int .u8 0, .int .u8 0, .int .u8 0] 37) = W at *
  go_loopw [5, 13] (fun g t w2 => ∃ i : Nat, i ≤ 6 ∧ t = .int .i64 i ∧ g = .int .i64 i ∧ Hid (Parts w w2 37 (plist s i)) ∧ Hid (∀ j, j < 3 * i - 1 → okAt s j = true)) (fun _ t _ => 6 - (intOf t).toNat)
  case atStart => exact ⟨0, by omega, rfl, rfl, HP0, hide (fun j hj => absurd hj (by omega))⟩
  case round =>
    obtain ⟨i, hi, rfl, rfl, HP, HG⟩ := hrel
    clear HP0
    by_cases hlt : i < 6
    · by_cases h0 : i = 0
      · have hz : (i : Int) ≤ 0 := by omega
        have HG1 : Hid (∀ j, j < 3 * i → okAt s j = true) := hide (fun j hj => absurd hj (by omega))
        have H0 := hide h0
        clear h0
        go_wp2_with fail
        have hs1 : 3 * i < s.size := by omega
        have hs2 : 3 * i + 1 < s.size := by omega
        obtain ⟨c1, hc1, HC1⟩ : ∃ c : Int, ((s[3 * i]'hs1).toNat : Int) = c ∧ Hid (c = ch s (3 * i)) := ⟨_, rfl, hide (ch_eq hs1)⟩
        obtain ⟨c2, hc2, HC2⟩ : ∃ c : Int, ((s[3 * i + 1]'hs2).toNat : Int) = c ∧ Hid (c = ch s (3 * i + 1)) := ⟨_, rfl, hide (ch_eq hs2)⟩
        have hcb1 : 0 ≤ c1 ∧ c1 ≤ 255 := by rw [HC1.out]; exact ch_bd s _
        have hcb2 : 0 ≤ c2 ∧ c2 ≤ 255 := by rw [HC2.out]; exact ch_bd s _
        have HO1 := hide (okAt_dig (s := s) (i := 3 * i) (by omega))
        have HO2 := hide (okAt_dig (s := s) (i := 3 * i + 1) (by omega))
        have hv1 := hexv_bd c1
        have hv2 := hexv_bd c2
        go_loopw [26] (fun t w2 => (t = .int .i64 0 ∧ Hid (Parts w w2 37 (plist s i))) ∨ (t = .int .i64 1 ∧ 0 ≤ hexv c1 ∧ Hid (Parts w w2 37 ((plist s i).set i (hexv c1)))) ∨ (t = .int .i64 2 ∧ 0 ≤ hexv c1 ∧ 0 ≤ hexv c2 ∧ Hid (Parts w w2 37 (plist s (i + 1))))) (fun t _ => 2 - (intOf t).toNat)
        case atStart => exact .inl ⟨rfl, HP⟩
        case round =>
          rcases hrel with ⟨rfl, HQ⟩ | ⟨rfl, hh1, HQ⟩ | ⟨rfl, hh1, hh2, HQ⟩
          · by_cases hh1 : 0 ≤ hexv c1
            · have hk := HQ.out.cell (i := i) (z := 0) (by rw [plist_get s i i hlt, if_neg (by omega)])
              obtain ⟨hk1, hk2⟩ := hk
              have ho := or_zero_u8 (hexv c1) hh1 hv1.2
              go_wp2_with (go_at_call 24; refine (hexDigit_yes _ _ hcb1.1 hcb1.2 hh1).mono ?_; rintro e w' ⟨rfl, rfl⟩)
              exact ⟨.inr (.inl ⟨rfl, hh1, hide (HQ.out.store i _)⟩), by simp [intOf]⟩
            · have HF : Hid (okAt s (3 * i) = false) := hide (by rw [HO1.out, ← HC1.out]; exact decide_eq_false hh1)
              have HH1 := hide hh1
              clear hh1
              go_wp2_with (go_at_call 24; refine (hexDigit_no _ _ hcb1.1 hcb1.2 (by have := HH1.out; omega)).mono ?_; rintro e w' ⟨rfl, rfl⟩)
              try rw [Exit.noGoto_ret]
              go_ret2
              exact ⟨ret_pair2 (macX_no (j := 3 * i) (by omega) HF.out).symm (macC_no (j := 3 * i) (by omega) HF.out).symm, HQ.out.1⟩
          · by_cases hh2 : 0 ≤ hexv c2
            · have hk := HQ.out.cell (i := i) (z := hexv c1) (by rw [List.getElem?_set_self (by rw [plist_len]; exact hlt)])
              obtain ⟨hk1, hk2⟩ := hk
              have ho := or_low_u8 (hexv c1) (hexv c2) hh1 hv1.2 hh2 hv2.2
              have HSET : Hid (((plist s i).set i (hexv c1)).set i (hexv c1 * 16 + hexv c2) = plist s (i + 1)) := hide (by
                rw [List.set_set, ← plist_set s i hlt, pb, ← HC1.out, ← HC2.out])
              go_wp2_with (go_at_call 24; refine (hexDigit_yes _ _ hcb2.1 hcb2.2 hh2).mono ?_; rintro e w' ⟨rfl, rfl⟩)
              exact ⟨.inr (.inr ⟨rfl, hh1, hh2, hide (by rw [← HSET.out]; exact HQ.out.store i _)⟩), by simp [intOf]⟩
            · have HF : Hid (okAt s (3 * i + 1) = false) := hide (by rw [HO2.out, ← HC2.out]; exact decide_eq_false hh2)
              have HH2 := hide hh2
              clear hh2
              go_wp2_with (go_at_call 24; refine (hexDigit_no _ _ hcb2.1 hcb2.2 (by have := HH2.out; omega)).mono ?_; rintro e w' ⟨rfl, rfl⟩)
              try rw [Exit.noGoto_ret]
              go_ret2
              exact ⟨ret_pair2 (macX_no (j := 3 * i + 1) (by omega) HF.out).symm (macC_no (j := 3 * i + 1) (by omega) HF.out).symm, HQ.out.1⟩
          · have HG2 : Hid (∀ j, j < 3 * (i + 1) - 1 → okAt s j = true) := hide (fun j hj => by
              by_cases e1 : j = 3 * i + 1
              · rw [e1, HO2.out, ← HC2.out]; exact decide_eq_true hh2
              · by_cases e2 : j = 3 * i
                · rw [e2, HO1.out, ← HC1.out]; exact decide_eq_true hh1
                · exact HG1.out j (by omega))
            go_wp2_with fail
            exact ⟨⟨i + 1, by omega, by go_num, by go_num, HQ, HG2⟩, by simp [intOf]; omega⟩
      · have hsz : 3 * i - 1 < s.size := by omega
        have hi0 : 0 < (i : Int) := by omega
        obtain ⟨c, hc, HC⟩ : ∃ c : Int, ((s[3 * i - 1]'hsz).toNat : Int) = c ∧ Hid (c = ch s (3 * i - 1)) := ⟨_, rfl, hide (ch_eq hsz)⟩
        have hcb : 0 ≤ c ∧ c ≤ 255 := by rw [HC.out]; exact ch_bd s _
        have HO := hide (okAt_sep (s := s) (i := 3 * i - 1) (by omega))
        have H0 := hide h0
        clear h0
        by_cases h58 : c = 58
        · have hn : (c != 58) = false := by rw [h58]; rfl
          have HO1' : Hid (okAt s (3 * i - 1) = true) := hide (by rw [HO.out, ← HC.out, h58]; rfl)
          have HG1 : Hid (∀ j, j < 3 * i → okAt s j = true) := hide (fun j hj => by
            by_cases e : j = 3 * i - 1
            · rw [e]; exact HO1'.out
            · exact HG.out j (by omega))
          clear h58
          go_wp2_with fail
          have hs1 : 3 * i < s.size := by omega
          have hs2 : 3 * i + 1 < s.size := by omega
          obtain ⟨c1, hc1, HC1⟩ : ∃ c : Int, ((s[3 * i]'hs1).toNat : Int) = c ∧ Hid (c = ch s (3 * i)) := ⟨_, rfl, hide (ch_eq hs1)⟩
          obtain ⟨c2, hc2, HC2⟩ : ∃ c : Int, ((s[3 * i + 1]'hs2).toNat : Int) = c ∧ Hid (c = ch s (3 * i + 1)) := ⟨_, rfl, hide (ch_eq hs2)⟩
          have hcb1 : 0 ≤ c1 ∧ c1 ≤ 255 := by rw [HC1.out]; exact ch_bd s _
          have hcb2 : 0 ≤ c2 ∧ c2 ≤ 255 := by rw [HC2.out]; exact ch_bd s _
          have HO1 := hide (okAt_dig (s := s) (i := 3 * i) (by omega))
          have HO2 := hide (okAt_dig (s := s) (i := 3 * i + 1) (by omega))
          have hv1 := hexv_bd c1
          have hv2 := hexv_bd c2
          go_loopw [26] (fun t w2 => (t = .int .i64 0 ∧ Hid (Parts w w2 37 (plist s i))) ∨ (t = .int .i64 1 ∧ 0 ≤ hexv c1 ∧ Hid (Parts w w2 37 ((plist s i).set i (hexv c1)))) ∨ (t = .int .i64 2 ∧ 0 ≤ hexv c1 ∧ 0 ≤ hexv c2 ∧ Hid (Parts w w2 37 (plist s (i + 1))))) (fun t _ => 2 - (intOf t).toNat)
          case atStart => exact .inl ⟨rfl, HP⟩
          case round =>
            rcases hrel with ⟨rfl, HQ⟩ | ⟨rfl, hh1, HQ⟩ | ⟨rfl, hh1, hh2, HQ⟩
            · by_cases hh1 : 0 ≤ hexv c1
              · have hk := HQ.out.cell (i := i) (z := 0) (by rw [plist_get s i i hlt, if_neg (by omega)])
                obtain ⟨hk1, hk2⟩ := hk
                have ho := or_zero_u8 (hexv c1) hh1 hv1.2
                go_wp2_with (go_at_call 24; refine (hexDigit_yes _ _ hcb1.1 hcb1.2 hh1).mono ?_; rintro e w' ⟨rfl, rfl⟩)
                exact ⟨.inr (.inl ⟨rfl, hh1, hide (HQ.out.store i _)⟩), by simp [intOf]⟩
              · have HF : Hid (okAt s (3 * i) = false) := hide (by rw [HO1.out, ← HC1.out]; exact decide_eq_false hh1)
                have HH1 := hide hh1
                clear hh1
                go_wp2_with (go_at_call 24; refine (hexDigit_no _ _ hcb1.1 hcb1.2 (by have := HH1.out; omega)).mono ?_; rintro e w' ⟨rfl, rfl⟩)
                try rw [Exit.noGoto_ret]
                go_ret2
                exact ⟨ret_pair2 (macX_no (j := 3 * i) (by omega) HF.out).symm (macC_no (j := 3 * i) (by omega) HF.out).symm, HQ.out.1⟩
            · by_cases hh2 : 0 ≤ hexv c2
              · have hk := HQ.out.cell (i := i) (z := hexv c1) (by rw [List.getElem?_set_self (by rw [plist_len]; exact hlt)])
                obtain ⟨hk1, hk2⟩ := hk
                have ho := or_low_u8 (hexv c1) (hexv c2) hh1 hv1.2 hh2 hv2.2
                have HSET : Hid (((plist s i).set i (hexv c1)).set i (hexv c1 * 16 + hexv c2) = plist s (i + 1)) := hide (by
                  rw [List.set_set, ← plist_set s i hlt, pb, ← HC1.out, ← HC2.out])
                go_wp2_with (go_at_call 24; refine (hexDigit_yes _ _ hcb2.1 hcb2.2 hh2).mono ?_; rintro e w' ⟨rfl, rfl⟩)
                exact ⟨.inr (.inr ⟨rfl, hh1, hh2, hide (by rw [← HSET.out]; exact HQ.out.store i _)⟩), by simp [intOf]⟩
              · have HF : Hid (okAt s (3 * i + 1) = false) := hide (by rw [HO2.out, ← HC2.out]; exact decide_eq_false hh2)
                have HH2 := hide hh2
                clear hh2
                go_wp2_with (go_at_call 24; refine (hexDigit_no _ _ hcb2.1 hcb2.2 (by have := HH2.out; omega)).mono ?_; rintro e w' ⟨rfl, rfl⟩)
                try rw [Exit.noGoto_ret]
                go_ret2
                exact ⟨ret_pair2 (macX_no (j := 3 * i + 1) (by omega) HF.out).symm (macC_no (j := 3 * i + 1) (by omega) HF.out).symm, HQ.out.1⟩
            · have HG2 : Hid (∀ j, j < 3 * (i + 1) - 1 → okAt s j = true) := hide (fun j hj => by
                by_cases e1 : j = 3 * i + 1
                · rw [e1, HO2.out, ← HC2.out]; exact decide_eq_true hh2
                · by_cases e2 : j = 3 * i
                  · rw [e2, HO1.out, ← HC1.out]; exact decide_eq_true hh1
                  · exact HG1.out j (by omega))
              go_wp2_with fail
              exact ⟨⟨i + 1, by omega, by go_num, by go_num, HQ, HG2⟩, by simp [intOf]; omega⟩
        · have hn : (c != 58) = true := by rw [bne_iff_ne]; exact h58
          have HO1 : Hid (okAt s (3 * i - 1) = false) := hide (by rw [HO.out, ← HC.out]; simpa using h58)
          clear h58
          go_wp2_with fail
          try rw [Exit.noGoto_ret]
          go_ret2
          exact ⟨ret_pair2 (macX_no (j := 3 * i - 1) (by omega) HO1.out).symm (macC_no (j := 3 * i - 1) (by omega) HO1.out).symm, HP.out.1⟩
    · have hi' : i = 6 := by omega
      subst hi'
      have HA : Hid (allOK s) := hide (fun j hj => HG.out j (by omega))
      have hzs : ∀ z ∈ plist s 6, 0 ≤ z ∧ z ≤ 255 := by
        intro z hz
        obtain ⟨j, hj, rfl⟩ := List.mem_map.1 hz
        rw [List.mem_range] at hj
        rw [if_pos hj]
        exact pb_bd (HA.out _ (by omega)) (HA.out _ (by omega))
      have HR := hide (HP.out.arr hzs)
      clear hzs
      go_wp2_with fail
      refine (takeNumber_walk _ _ _ (plist s 6) _ (plist_len s 6) HR.out (by omega)).mono ?_
      rintro e w2 ⟨rfl, rfl⟩
      rw [plist_end]
      go_wp2_with fail
      try rw [Exit.noGoto_ret]
      go_ret2
      exact ⟨ret_pair2 (macX_yes HA.out).symm (macC_yes HA.out).symm, HP.out.1⟩
theorem mac_short (s : ByteArray) (w : World) (h17 : ¬ s.size = 17) (hm : s.size ≤ 1048576) :
    Calls Try.prog 10 #[.string s] w fun e w' => e = .returned (.tuple #[.int .i64 0, .int .i64 6]) ∧ Below w.heap.size w w' := by
  have hb : ((s.size : Int) != 17) = true := by rw [bne_iff_ne]; omega
  clear h17
  go_enter Try.func10, Try.ntmps10
  go_wp2_with fail
  go_step3
  go_wp2_with fail
  try rw [Exit.noGoto_ret]
  go_ret2
  exact ⟨rfl, Below.refl _ _⟩

set_option maxHeartbeats 1000000 in
theorem walkReadMac (s : ByteArray) (hs : s.size ≤ maxLen) (w : World) :
    Calls Try.prog 3 #[.string s] w fun e w' => e = .returned (.bool true) ∧ Below w.heap.size w w' := by
  unfold maxLen at hs
  by_cases hbig : 1048576 < s.size
  · go_enter Try.func3, Try.ntmps3
    go_wp2
    go_ret
    exact ⟨rfl, Below.refl _ _⟩
  · by_cases h17 : s.size = 17
    · have H17 := hide h17
      have hm : s.size ≤ 1048576 := by omega
      clear h17 hs
      go_enter Try.func3, Try.ntmps3
      go_wp2_with fail
      refine (specMac_walk s _ H17.out).mono ?_
      rintro e w1 ⟨rfl, rfl⟩
      go_wp2_with fail
      refine (mac_walk s _ H17.out).mono ?_
      rintro e w2 ⟨rfl, hb⟩
      go_wp2_with fail
      go_ret
      exact ⟨rfl, hb⟩
    · have H17 := hide h17
      have hm : s.size ≤ 1048576 := by omega
      clear h17 hs
      go_enter Try.func3, Try.ntmps3
      go_wp2_with fail
      refine (specMac_short s _ H17.out hm).mono ?_
      rintro e w1 ⟨rfl, rfl⟩
      go_wp2_with fail
      refine (mac_short s _ H17.out hm).mono ?_
      rintro e w2 ⟨rfl, hb⟩
      go_wp2_with fail
      go_ret
      exact ⟨rfl, hb⟩

open Go.ChangeMaps (open_string shut_string)
theorem own : ownKnob Try.prog.godebug = none := by kernel_rfl

set_option maxRecDepth 100000 in
theorem fnExactReadMac_lifted (os : Os) (started : os.Started) (H : Type) (enc : TypeId × Value → H) :
    ReturnsInHanded {} Try.checked os 3 .any (Rows.fnExactReadMacSpec.pre6 enc Try.prog Try.f3 Rows.fnExactReadMacRow.domain false) (Rows.fnExactReadMacSpec.post enc Try.prog Try.f3 false true false false) := by
  refine returnsInHanded_of_change (C := Try.checked) own started (by kernel_rfl) Try.func3
    (ChangeSpec.witness6 (enc := enc) (C := Try.checked) false ⟨#[], #[.string ByteArray.empty], []⟩ 8 (by kernel_rfl) (by kernel_rfl) (by kernel_rfl) (by kernel_rfl)) ?_
  intro W base args ds gs before hval0 hW hcnd _
  have hval : ∀ (j : Nat) t v, Try.f3.params[j]? = some t → args[j]? = some v → Value.okWide Try.prog W .any base t v := hval0
  have hW' := hW
  obtain ⟨p, q, hA0, hV, rfl, hfz, hnd⟩ := hW
  have hA : DataW.TrodAll enc Try.prog W 0 (fun _ => true) true Try.f3.params.toList args.toList ds p := hA0
  rw [Try.params3] at hA hval
  obtain ⟨v0, vs0, d0, ds0, p0, q0, hargs, rfl, rfl, h0, r0⟩ := trodAll_cons hA
  obtain ⟨rfl, rfl, rfl⟩ := trodAll_nil r0
  obtain rfl : args = #[v0] := by cases args; simp_all
  obtain ⟨rfl, rfl⟩ := trodVars_none hV
  obtain ⟨a0, rfl, rfl, rfl, w0⟩ := open_string Try.underlying9 (hval 0 9 v0 rfl rfl) h0
  clear hA0 hval0
  refine (walkReadMac a0 w0 W).mono fun e W' ⟨he, bel⟩ => ?_
  subst he
  exact ⟨_, rfl, _, _, _, [], _, [], hW', trodAll_mk1 (shut_bool Try.underlying4 _), (trodAll_cons_mk (shut_string Try.underlying9 w0) trodAll_mk0), rfl, bel.frame _, fun h => by cases h⟩

theorem fnExactReadMac_over : Rows.fnExactReadMacRow.holds Try.pinned (OpenSpec.ofChange Rows.fnExactReadMacSpec) :=
  OpenClaim.holds_of_wide 3 Try.f3 rfl rfl rfl rfl rfl rfl rfl ⟨rfl, rfl, rfl, rfl, rfl⟩ rfl rfl rfl rfl rfl (by kernel_rfl) Try.func3 (by kernel_rfl)
    (of_decide_eq_true (by kernel_rfl)) (by unfold Func.isWrapper; first | (rw [if_pos (by decide +kernel)]; kernel_rfl) | (rw [if_neg (by decide +kernel)]; exact ⟨rfl, rfl⟩))
    (fun os started H enc _ => fnExactReadMac_lifted os started H enc)

theorem fnExactReadMac_holds : Rows.FnExactReadMacSaid :=
  fnExactReadMac_over
end Go.Proofs.Ytmgjagajcmeikab
