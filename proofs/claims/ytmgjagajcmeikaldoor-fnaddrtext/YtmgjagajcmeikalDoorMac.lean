/-
Contracts of functions of this seat.
-/
import Derived.Test.YtmgjagajcmeikalDoorRows
import Derived.WalkKit
import Derived.ProofKit
import Derived.OpenShut
import Derived.Test.YtmgjagajcmeikalDoorSha
import Derived.WalkMore
namespace Go.Proofs.YtmgjagajcmeikalDoor
open Go.ChangeShapes Go.WideShapes Go.ChangeAt Go.RowKit
set_option linter.unusedVariables false
def hexv (c : Int) : Int := if 48 ≤ c ∧ c ≤ 57 then c - 48 else if 97 ≤ c ∧ c ≤ 102 then c - 87 else if 65 ≤ c ∧ c ≤ 70 then c - 55 else -1
theorem hexv_bd (c : Int) : -1 ≤ hexv c ∧ hexv c ≤ 15 := by unfold hexv; split <;> (try split) <;> (try split) <;> omega
theorem hexv_cases (c : Int) : (48 ≤ c ∧ c ≤ 57 ∧ hexv c = c - 48) ∨ (97 ≤ c ∧ c ≤ 102 ∧ hexv c = c - 87) ∨ (65 ≤ c ∧ c ≤ 70 ∧ hexv c = c - 55) ∨ (hexv c = -1 ∧ (c < 48 ∨ 57 < c) ∧ (c < 97 ∨ 102 < c) ∧ (c < 65 ∨ 70 < c)) := by
  unfold hexv
  split
  · left; omega
  · split
    · right; left; omega
    · split
      · right; right; left; omega
      · right; right; right; refine ⟨rfl, ?_, ?_, ?_⟩ <;> omega

theorem ret_fst {k : IntKind} {a b : Int} {v : Value} (h : a = b) : Ending.returned (.tuple #[.int k a, v]) = .returned (.tuple #[.int k b, v]) := by rw [h]
set_option maxHeartbeats 1000000 in
theorem hexDigit_yes (c : Int) (w : World) (h0 : 0 ≤ c) (h1 : c ≤ 255) (hh : 0 ≤ hexv c) :
    Calls Tryd.prog 22 #[.int .u8 c] w fun e w' => e = .returned (.tuple #[.int .u8 (hexv c), .bool true]) ∧ w' = w := by
  rcases hexv_cases c with ⟨a1, a2, hv⟩ | ⟨a1, a2, hv⟩ | ⟨a1, a2, hv⟩ | ⟨hv, _⟩
  · have HV := hide hv
    clear hv hh
    go_enter Tryd.func22, Tryd.ntmps22
    go_wp2
    go_ret2
    exact ⟨ret_fst (by rw [HV.out]), rfl⟩
  · have HV := hide hv
    have a3 : ¬ c ≤ 57 := by omega
    clear hv hh
    go_enter Tryd.func22, Tryd.ntmps22
    go_wp2
    go_ret2
    exact ⟨ret_fst (by rw [HV.out]; omega), rfl⟩
  · have HV := hide hv
    have a3 : ¬ c ≤ 57 := by omega
    have a4 : ¬ 97 ≤ c := by omega
    clear hv hh
    go_enter Tryd.func22, Tryd.ntmps22
    go_wp2
    go_ret2
    exact ⟨ret_fst (by rw [HV.out]; omega), rfl⟩
  · omega
set_option maxHeartbeats 1000000 in
theorem hexDigit_no (c : Int) (w : World) (h0 : 0 ≤ c) (h1 : c ≤ 255) (hh : ¬ 0 ≤ hexv c) :
    Calls Tryd.prog 22 #[.int .u8 c] w fun e w' => e = .returned (.tuple #[.int .u8 0, .bool false]) ∧ w' = w := by
  rcases hexv_cases c with ⟨a1, a2, hv⟩ | ⟨a1, a2, hv⟩ | ⟨a1, a2, hv⟩ | ⟨hv, k1, k2, k3⟩
  · omega
  · omega
  · omega
  · clear hh hv
    rcases k1 with k1 | k1 <;> rcases k2 with k2 | k2 <;> rcases k3 with k3 | k3
    all_goals first
      | (exfalso; omega)
      | (go_enter Tryd.func22, Tryd.ntmps22
         go_wp2
         go_ret2
         exact ⟨rfl, rfl⟩)

/-- The i-th byte of a text. -/
def ch (s : ByteArray) (i : Nat) : Int := if h : i < s.size then (s[i].toNat : Int) else 0
theorem ch_eq {s : ByteArray} {i : Nat} (h : i < s.size) : ((s[i]'h).toNat : Int) = ch s i := by unfold ch; rw [dif_pos h]
theorem ch_bd (s : ByteArray) (i : Nat) : 0 ≤ ch s i ∧ ch s i ≤ 255 := by
  unfold ch; split
  · have := s[i].toNat_lt; omega
  · omega
def okAt (s : ByteArray) (i : Nat) : Bool := if i % 3 = 2 then ch s i == 58 else decide (0 ≤ hexv (ch s i))
def allOK (s : ByteArray) : Prop := ∀ i, i < 17 → okAt s i = true
def mval (s : ByteArray) : Nat → Int
  | 0 => 0
  | i + 1 => if i % 3 = 2 then mval s i else mval s i * 16 + hexv (ch s i)
def allB (s : ByteArray) : Bool := (List.range 17).all (okAt s)
theorem allB_iff {s : ByteArray} : allB s = true ↔ allOK s := by unfold allB allOK; simp
def macX (s : ByteArray) : Int := if allB s = true then mval s 17 else 0
def macC (s : ByteArray) : Int := if allB s = true then 0 else 6
theorem macX_yes {s : ByteArray} (h : allOK s) : macX s = mval s 17 := by unfold macX; rw [if_pos (allB_iff.2 h)]
theorem macC_yes {s : ByteArray} (h : allOK s) : macC s = 0 := by unfold macC; rw [if_pos (allB_iff.2 h)]
theorem macX_no {s : ByteArray} {j : Nat} (hj : j < 17) (h : okAt s j = false) : macX s = 0 := by
  unfold macX; rw [if_neg (fun ha => by have := allB_iff.1 ha j hj; rw [h] at this; cases this)]
theorem macC_no {s : ByteArray} {j : Nat} (hj : j < 17) (h : okAt s j = false) : macC s = 6 := by
  unfold macC; rw [if_neg (fun ha => by have := allB_iff.1 ha j hj; rw [h] at this; cases this)]
theorem okAt_sep {s : ByteArray} {i : Nat} (h : i % 3 = 2) : okAt s i = (ch s i == 58) := by unfold okAt; rw [if_pos h]
theorem okAt_dig {s : ByteArray} {i : Nat} (h : ¬ i % 3 = 2) : okAt s i = decide (0 ≤ hexv (ch s i)) := by unfold okAt; rw [if_neg h]
theorem mval_sep {s : ByteArray} {i : Nat} (h : i % 3 = 2) : mval s (i + 1) = mval s i := by rw [mval, if_pos h]
theorem mval_dig {s : ByteArray} {i : Nat} (h : ¬ i % 3 = 2) : mval s (i + 1) = mval s i * 16 + hexv (ch s i) := by rw [mval, if_neg h]
theorem mval_bd (s : ByteArray) : ∀ i, (∀ j, j < i → okAt s j = true) → 0 ≤ mval s i ∧ mval s i < 16 ^ (i - i / 3)
  | 0, _ => by simp [mval]
  | i + 1, h => by
    have ih := mval_bd s i (fun j hj => h j (by omega))
    by_cases e : i % 3 = 2
    · rw [mval_sep e, show i + 1 - (i + 1) / 3 = i - i / 3 by omega]; exact ih
    · rw [mval_dig e, show i + 1 - (i + 1) / 3 = (i - i / 3) + 1 by omega, Int.pow_succ]
      have hb := hexv_bd (ch s i)
      have h0 := h i (by omega)
      rw [okAt_dig e] at h0
      have h1 := of_decide_eq_true h0
      omega
theorem mval_small (s : ByteArray) (i : Nat) (hi : i < 17) (he : ¬ i % 3 = 2) (h : ∀ j, j < i → okAt s j = true) : 0 ≤ mval s i ∧ mval s i < 17592186044416 := by
  have hb := mval_bd s i h
  have hp : (16 : Nat) ^ (i - i / 3) ≤ 16 ^ 11 := Nat.pow_le_pow_right (by decide) (by omega)
  have hp' : ((16 : Int) ^ (i - i / 3)) ≤ 16 ^ 11 := by exact_mod_cast hp
  omega
theorem ret_pair2 {k l : IntKind} {a b c d : Int} (h : a = b) (h2 : c = d) : Ending.returned (.tuple #[.int k a, .int l c]) = .returned (.tuple #[.int k b, .int l d]) := by rw [h, h2]

def pb (s : ByteArray) (j : Nat) : Int := hexv (ch s (3 * j)) * 16 + hexv (ch s (3 * j + 1))
def plist (s : ByteArray) (i : Nat) : List Int := (List.range 6).map (fun j => if j < i then pb s j else 0)
theorem plist_len (s : ByteArray) (i : Nat) : (plist s i).length = 6 := by unfold plist; simp
theorem plist_get (s : ByteArray) (i j : Nat) (hj : j < 6) : (plist s i)[j]? = some (if j < i then pb s j else 0) := by
  unfold plist; rw [List.getElem?_map, List.getElem?_range hj]; rfl
theorem plist_set (s : ByteArray) (i : Nat) (hi : i < 6) : (plist s i).set i (pb s i) = plist s (i + 1) := by
  apply List.ext_getElem?
  intro j
  by_cases hj : j < 6
  · by_cases e : j = i
    · subst e
      rw [List.getElem?_set_self (by rw [plist_len]; exact hi), plist_get s (j + 1) j hj, if_pos (by omega)]
    · rw [List.getElem?_set_ne (fun h => e h.symm), plist_get s i j hj, plist_get s (i + 1) j hj]
      by_cases h : j < i
      · rw [if_pos h, if_pos (by omega)]
      · rw [if_neg h, if_neg (by omega)]
  · rw [List.getElem?_eq_none (by rw [List.length_set, plist_len]; omega), List.getElem?_eq_none (by rw [plist_len]; omega)]
theorem plist_end (s : ByteArray) : tnum (plist s 6) = mval s 17 := by
  simp [tnum, plist, pb, mval, List.range_succ]
  omega
theorem plist_zero (s : ByteArray) : plist s 0 = [0, 0, 0, 0, 0, 0] := by simp [plist, List.range_succ]
theorem pb_bd {s : ByteArray} {j : Nat} (h1 : okAt s (3 * j) = true) (h2 : okAt s (3 * j + 1) = true) : 0 ≤ pb s j ∧ pb s j ≤ 255 := by
  rw [okAt_dig (by omega)] at h1 h2
  have a1 := of_decide_eq_true h1
  have a2 := of_decide_eq_true h2
  have b1 := hexv_bd (ch s (3 * j))
  have b2 := hexv_bd (ch s (3 * j + 1))
  unfold pb; omega
theorem or_low_u8 (x y : Int) (hx : 0 ≤ x) (hx1 : x ≤ 15) (hy : 0 ≤ y) (hy1 : y ≤ 15) : bits .or .u8 (x * 16) y = x * 16 + y :=
  bits_join .u8 8 (by decide) wraps_u8 4 (x * 16) y (by omega) (by show x * 16 % 16 = 0; omega) (by show x * 16 < 256; omega) hy (by show y < 16; omega) (by show y < 256; omega)
theorem or_zero_u8 (y : Int) (hy : 0 ≤ y) (hy1 : y ≤ 15) : bits .or .u8 0 y = y := by
  have h := or_low_u8 0 y (by omega) (by omega) hy hy1
  simpa using h
/-- The parts lie in block B; their bytes are zs. -/
def Parts (w0 w : World) (t : Nat) (zs : List Int) : Prop :=
  Below w0.heap.size w0 w ∧ w0.heap.size < w.heap.size ∧ zs.length = 6 ∧ w.ownsRow w0.heap.size t 1 (.slice (some ⟨w0.heap.size, 0, none⟩) 6 6) 6 (zs.map (Value.int .u8))
theorem Parts.start (w0 : World) (t : Nat) : Parts w0 (w0.alloc (.cells #[.int .u8 0, .int .u8 0, .int .u8 0, .int .u8 0, .int .u8 0, .int .u8 0] t)) t [0, 0, 0, 0, 0, 0] :=
  ⟨(Below.refl _ _).alloc (Nat.le_refl _) _, by rw [World.size_alloc]; omega, rfl, World.ownsRow_lit (base := w0.heap.size) (e := t) (size := 1) w0 #[.int .u8 0, .int .u8 0, .int .u8 0, .int .u8 0, .int .u8 0, .int .u8 0] 6 (Nat.le_refl _) (by decide) rfl⟩
theorem Parts.cell {w0 w : World} {t : Nat} {zs : List Int} (h : Parts w0 w t zs) {i : Nat} {z : Int} (hz : zs[i]? = some z) : w.cell? ⟨w0.heap.size, i, none⟩ = some (.int .u8 z) ∧ w.frozen? ⟨w0.heap.size, i, none⟩ = false := by
  have hi : i < 6 := by have := (List.getElem?_eq_some_iff.1 hz).1; rw [h.2.2.1] at this; exact this
  refine ⟨?_, h.2.2.2.frozenAt i⟩
  rw [h.2.2.2.cellAt i (by omega), List.getElem?_map, hz]; rfl
theorem Parts.store {w0 w : World} {t : Nat} {zs : List Int} (h : Parts w0 w t zs) (i : Nat) (z : Int) : Parts w0 (w.setCell ⟨w0.heap.size, i, none⟩ (.int .u8 z)) t (zs.set i z) := by
  refine ⟨h.1.setCell (p := ⟨w0.heap.size, i, none⟩) (Nat.le_refl _) _, by simpa using h.2.1, by rw [List.length_set]; exact h.2.2.1, ?_⟩
  have := (h.2.2.2.stored i (.int .u8 z)).1
  rw [List.map_set]; exact this
theorem Parts.arr {w0 w : World} {t : Nat} {zs : List Int} (h : Parts w0 w t zs) (hz : ∀ z ∈ zs, 0 ≤ z ∧ z ≤ 255) : Arr w (some ⟨w0.heap.size, 0, none⟩) zs := by
  refine ⟨hz, fun j hj => ⟨_, 0, rfl, h.2.1, ?_⟩⟩
  have h1 : zs[j]? = some (zs.getD j 0) := by rw [List.getD_eq_getElem?_getD, List.getElem?_eq_getElem hj]; rfl
  rw [Nat.zero_add]; exact (h.cell h1).1
set_option maxHeartbeats 4000000 in
theorem mac_walk (s : ByteArray) (w : World) (h17 : s.size = 17) :
    Calls Tryd.prog 9 #[.string s] w fun e w' => e = .returned (.tuple #[.int .i64 (macX s), .int .i64 (macC s)]) ∧ Below w.heap.size w w' := by
  go_enter Tryd.func9, Tryd.ntmps9
  go_wp2_with fail
  go_step3
  go_wp2_with fail
  go_step3
  go_wp2_with fail
  have HP0 : Hid (Parts w (w.alloc (.cells #[.int .u8 0, .int .u8 0, .int .u8 0, .int .u8 0, .int .u8 0, .int .u8 0] 52)) 52 (plist s 0)) := hide (by rw [plist_zero]; exact Parts.start w _)
  generalize w.alloc (.cells #[.int .u8 0, .int .u8 0, .int .u8 0, .int .u8 0, .int .u8 0, .int .u8 0] 52) = W at *
  go_loopw [5, 13] (fun g t w2 => ∃ i : Nat, i ≤ 6 ∧ t = .int .i64 i ∧ g = .int .i64 i ∧ Hid (Parts w w2 52 (plist s i)) ∧ Hid (∀ j, j < 3 * i - 1 → okAt s j = true)) (fun _ t _ => 6 - (intOf t).toNat)
  case atStart => exact ⟨0, by omega, rfl, rfl, HP0, hide (fun j hj => absurd hj (by omega))⟩
  case round =>
    obtain ⟨i, hi, rfl, rfl, HP, HG⟩ := hrel
    clear HP0
    by_cases hlt : i < 6
    · by_cases h0 : i = 0
      · have hz : (i : Int) ≤ 0 := by omega
        have HG1 : Hid (∀ j, j < 3 * i → okAt s j = true) := hide (fun j hj => absurd hj (by omega))
        have H0 := hide h0
        clear h0
        go_wp2_with fail
        have hs1 : 3 * i < s.size := by omega
        have hs2 : 3 * i + 1 < s.size := by omega
        obtain ⟨c1, hc1, HC1⟩ : ∃ c : Int, ((s[3 * i]'hs1).toNat : Int) = c ∧ Hid (c = ch s (3 * i)) := ⟨_, rfl, hide (ch_eq hs1)⟩
        obtain ⟨c2, hc2, HC2⟩ : ∃ c : Int, ((s[3 * i + 1]'hs2).toNat : Int) = c ∧ Hid (c = ch s (3 * i + 1)) := ⟨_, rfl, hide (ch_eq hs2)⟩
        have hcb1 : 0 ≤ c1 ∧ c1 ≤ 255 := by rw [HC1.out]; exact ch_bd s _
        have hcb2 : 0 ≤ c2 ∧ c2 ≤ 255 := by rw [HC2.out]; exact ch_bd s _
        have HO1 := hide (okAt_dig (s := s) (i := 3 * i) (by omega))
        have HO2 := hide (okAt_dig (s := s) (i := 3 * i + 1) (by omega))
        have hv1 := hexv_bd c1
        have hv2 := hexv_bd c2
        go_loopw [26] (fun t w2 => (t = .int .i64 0 ∧ Hid (Parts w w2 52 (plist s i))) ∨ (t = .int .i64 1 ∧ 0 ≤ hexv c1 ∧ Hid (Parts w w2 52 ((plist s i).set i (hexv c1)))) ∨ (t = .int .i64 2 ∧ 0 ≤ hexv c1 ∧ 0 ≤ hexv c2 ∧ Hid (Parts w w2 52 (plist s (i + 1))))) (fun t _ => 2 - (intOf t).toNat)
        case atStart => exact .inl ⟨rfl, HP⟩
        case round =>
          rcases hrel with ⟨rfl, HQ⟩ | ⟨rfl, hh1, HQ⟩ | ⟨rfl, hh1, hh2, HQ⟩
          · by_cases hh1 : 0 ≤ hexv c1
            · have hk := HQ.out.cell (i := i) (z := 0) (by rw [plist_get s i i hlt, if_neg (by omega)])
              obtain ⟨hk1, hk2⟩ := hk
              have ho := or_zero_u8 (hexv c1) hh1 hv1.2
              go_wp2_with (go_at_call 22; refine (hexDigit_yes _ _ hcb1.1 hcb1.2 hh1).mono ?_; rintro e w' ⟨rfl, rfl⟩)
              exact ⟨.inr (.inl ⟨rfl, hh1, hide (HQ.out.store i _)⟩), by simp [intOf]⟩
            · have HF : Hid (okAt s (3 * i) = false) := hide (by rw [HO1.out, ← HC1.out]; exact decide_eq_false hh1)
              have HH1 := hide hh1
              clear hh1
              go_wp2_with (go_at_call 22; refine (hexDigit_no _ _ hcb1.1 hcb1.2 (by have := HH1.out; omega)).mono ?_; rintro e w' ⟨rfl, rfl⟩)
              try rw [Exit.noGoto_ret]
              go_ret2
              exact ⟨ret_pair2 (macX_no (j := 3 * i) (by omega) HF.out).symm (macC_no (j := 3 * i) (by omega) HF.out).symm, HQ.out.1⟩
          · by_cases hh2 : 0 ≤ hexv c2
            · have hk := HQ.out.cell (i := i) (z := hexv c1) (by rw [List.getElem?_set_self (by rw [plist_len]; exact hlt)])
              obtain ⟨hk1, hk2⟩ := hk
              have ho := or_low_u8 (hexv c1) (hexv c2) hh1 hv1.2 hh2 hv2.2
              have HSET : Hid (((plist s i).set i (hexv c1)).set i (hexv c1 * 16 + hexv c2) = plist s (i + 1)) := hide (by
                rw [List.set_set, ← plist_set s i hlt, pb, ← HC1.out, ← HC2.out])
              go_wp2_with (go_at_call 22; refine (hexDigit_yes _ _ hcb2.1 hcb2.2 hh2).mono ?_; rintro e w' ⟨rfl, rfl⟩)
              exact ⟨.inr (.inr ⟨rfl, hh1, hh2, hide (by rw [← HSET.out]; exact HQ.out.store i _)⟩), by simp [intOf]⟩
            · have HF : Hid (okAt s (3 * i + 1) = false) := hide (by rw [HO2.out, ← HC2.out]; exact decide_eq_false hh2)
              have HH2 := hide hh2
              clear hh2
              go_wp2_with (go_at_call 22; refine (hexDigit_no _ _ hcb2.1 hcb2.2 (by have := HH2.out; omega)).mono ?_; rintro e w' ⟨rfl, rfl⟩)
              try rw [Exit.noGoto_ret]
              go_ret2
              exact ⟨ret_pair2 (macX_no (j := 3 * i + 1) (by omega) HF.out).symm (macC_no (j := 3 * i + 1) (by omega) HF.out).symm, HQ.out.1⟩
          · have HG2 : Hid (∀ j, j < 3 * (i + 1) - 1 → okAt s j = true) := hide (fun j hj => by
              by_cases e1 : j = 3 * i + 1
              · rw [e1, HO2.out, ← HC2.out]; exact decide_eq_true hh2
              · by_cases e2 : j = 3 * i
                · rw [e2, HO1.out, ← HC1.out]; exact decide_eq_true hh1
                · exact HG1.out j (by omega))
            go_wp2_with fail
            exact ⟨⟨i + 1, by omega, by go_num, by go_num, HQ, HG2⟩, by simp [intOf]; omega⟩
      · have hsz : 3 * i - 1 < s.size := by omega
        have hi0 : 0 < (i : Int) := by omega
        obtain ⟨c, hc, HC⟩ : ∃ c : Int, ((s[3 * i - 1]'hsz).toNat : Int) = c ∧ Hid (c = ch s (3 * i - 1)) := ⟨_, rfl, hide (ch_eq hsz)⟩
        have hcb : 0 ≤ c ∧ c ≤ 255 := by rw [HC.out]; exact ch_bd s _
        have HO := hide (okAt_sep (s := s) (i := 3 * i - 1) (by omega))
        have H0 := hide h0
        clear h0
        by_cases h58 : c = 58
        · have hn : (c != 58) = false := by rw [h58]; rfl
          have HO1' : Hid (okAt s (3 * i - 1) = true) := hide (by rw [HO.out, ← HC.out, h58]; rfl)
          have HG1 : Hid (∀ j, j < 3 * i → okAt s j = true) := hide (fun j hj => by
            by_cases e : j = 3 * i - 1
            · rw [e]; exact HO1'.out
            · exact HG.out j (by omega))
          clear h58
          go_wp2_with fail
          have hs1 : 3 * i < s.size := by omega
          have hs2 : 3 * i + 1 < s.size := by omega
          obtain ⟨c1, hc1, HC1⟩ : ∃ c : Int, ((s[3 * i]'hs1).toNat : Int) = c ∧ Hid (c = ch s (3 * i)) := ⟨_, rfl, hide (ch_eq hs1)⟩
          obtain ⟨c2, hc2, HC2⟩ : ∃ c : Int, ((s[3 * i + 1]'hs2).toNat : Int) = c ∧ Hid (c = ch s (3 * i + 1)) := ⟨_, rfl, hide (ch_eq hs2)⟩
          have hcb1 : 0 ≤ c1 ∧ c1 ≤ 255 := by rw [HC1.out]; exact ch_bd s _
          have hcb2 : 0 ≤ c2 ∧ c2 ≤ 255 := by rw [HC2.out]; exact ch_bd s _
          have HO1 := hide (okAt_dig (s := s) (i := 3 * i) (by omega))
          have HO2 := hide (okAt_dig (s := s) (i := 3 * i + 1) (by omega))
          have hv1 := hexv_bd c1
          have hv2 := hexv_bd c2
          go_loopw [26] (fun t w2 => (t = .int .i64 0 ∧ Hid (Parts w w2 52 (plist s i))) ∨ (t = .int .i64 1 ∧ 0 ≤ hexv c1 ∧ Hid (Parts w w2 52 ((plist s i).set i (hexv c1)))) ∨ (t = .int .i64 2 ∧ 0 ≤ hexv c1 ∧ 0 ≤ hexv c2 ∧ Hid (Parts w w2 52 (plist s (i + 1))))) (fun t _ => 2 - (intOf t).toNat)
          case atStart => exact .inl ⟨rfl, HP⟩
          case round =>
            rcases hrel with ⟨rfl, HQ⟩ | ⟨rfl, hh1, HQ⟩ | ⟨rfl, hh1, hh2, HQ⟩
            · by_cases hh1 : 0 ≤ hexv c1
              · have hk := HQ.out.cell (i := i) (z := 0) (by rw [plist_get s i i hlt, if_neg (by omega)])
                obtain ⟨hk1, hk2⟩ := hk
                have ho := or_zero_u8 (hexv c1) hh1 hv1.2
                go_wp2_with (go_at_call 22; refine (hexDigit_yes _ _ hcb1.1 hcb1.2 hh1).mono ?_; rintro e w' ⟨rfl, rfl⟩)
                exact ⟨.inr (.inl ⟨rfl, hh1, hide (HQ.out.store i _)⟩), by simp [intOf]⟩
              · have HF : Hid (okAt s (3 * i) = false) := hide (by rw [HO1.out, ← HC1.out]; exact decide_eq_false hh1)
                have HH1 := hide hh1
                clear hh1
                go_wp2_with (go_at_call 22; refine (hexDigit_no _ _ hcb1.1 hcb1.2 (by have := HH1.out; omega)).mono ?_; rintro e w' ⟨rfl, rfl⟩)
                try rw [Exit.noGoto_ret]
                go_ret2
                exact ⟨ret_pair2 (macX_no (j := 3 * i) (by omega) HF.out).symm (macC_no (j := 3 * i) (by omega) HF.out).symm, HQ.out.1⟩
            · by_cases hh2 : 0 ≤ hexv c2
              · have hk := HQ.out.cell (i := i) (z := hexv c1) (by rw [List.getElem?_set_self (by rw [plist_len]; exact hlt)])
                obtain ⟨hk1, hk2⟩ := hk
                have ho := or_low_u8 (hexv c1) (hexv c2) hh1 hv1.2 hh2 hv2.2
                have HSET : Hid (((plist s i).set i (hexv c1)).set i (hexv c1 * 16 + hexv c2) = plist s (i + 1)) := hide (by
                  rw [List.set_set, ← plist_set s i hlt, pb, ← HC1.out, ← HC2.out])
                go_wp2_with (go_at_call 22; refine (hexDigit_yes _ _ hcb2.1 hcb2.2 hh2).mono ?_; rintro e w' ⟨rfl, rfl⟩)
                exact ⟨.inr (.inr ⟨rfl, hh1, hh2, hide (by rw [← HSET.out]; exact HQ.out.store i _)⟩), by simp [intOf]⟩
              · have HF : Hid (okAt s (3 * i + 1) = false) := hide (by rw [HO2.out, ← HC2.out]; exact decide_eq_false hh2)
                have HH2 := hide hh2
                clear hh2
                go_wp2_with (go_at_call 22; refine (hexDigit_no _ _ hcb2.1 hcb2.2 (by have := HH2.out; omega)).mono ?_; rintro e w' ⟨rfl, rfl⟩)
                try rw [Exit.noGoto_ret]
                go_ret2
                exact ⟨ret_pair2 (macX_no (j := 3 * i + 1) (by omega) HF.out).symm (macC_no (j := 3 * i + 1) (by omega) HF.out).symm, HQ.out.1⟩
            · have HG2 : Hid (∀ j, j < 3 * (i + 1) - 1 → okAt s j = true) := hide (fun j hj => by
                by_cases e1 : j = 3 * i + 1
                · rw [e1, HO2.out, ← HC2.out]; exact decide_eq_true hh2
                · by_cases e2 : j = 3 * i
                  · rw [e2, HO1.out, ← HC1.out]; exact decide_eq_true hh1
                  · exact HG1.out j (by omega))
              go_wp2_with fail
              exact ⟨⟨i + 1, by omega, by go_num, by go_num, HQ, HG2⟩, by simp [intOf]; omega⟩
        · have hn : (c != 58) = true := by rw [bne_iff_ne]; exact h58
          have HO1 : Hid (okAt s (3 * i - 1) = false) := hide (by rw [HO.out, ← HC.out]; simpa using h58)
          clear h58
          go_wp2_with fail
          try rw [Exit.noGoto_ret]
          go_ret2
          exact ⟨ret_pair2 (macX_no (j := 3 * i - 1) (by omega) HO1.out).symm (macC_no (j := 3 * i - 1) (by omega) HO1.out).symm, HP.out.1⟩
    · have hi' : i = 6 := by omega
      subst hi'
      have HA : Hid (allOK s) := hide (fun j hj => HG.out j (by omega))
      have hzs : ∀ z ∈ plist s 6, 0 ≤ z ∧ z ≤ 255 := by
        intro z hz
        obtain ⟨j, hj, rfl⟩ := List.mem_map.1 hz
        rw [List.mem_range] at hj
        rw [if_pos hj]
        exact pb_bd (HA.out _ (by omega)) (HA.out _ (by omega))
      have HR := hide (HP.out.arr hzs)
      clear hzs
      go_wp2_with fail
      refine (takeNumber_walk _ _ _ (plist s 6) _ (plist_len s 6) HR.out (by omega)).mono ?_
      rintro e w2 ⟨rfl, rfl⟩
      rw [plist_end]
      go_wp2_with fail
      try rw [Exit.noGoto_ret]
      go_ret2
      exact ⟨ret_pair2 (macX_yes HA.out).symm (macC_yes HA.out).symm, HP.out.1⟩
theorem mac_short (s : ByteArray) (w : World) (h17 : ¬ s.size = 17) (hm : s.size ≤ 1048576) :
    Calls Tryd.prog 9 #[.string s] w fun e w' => e = .returned (.tuple #[.int .i64 0, .int .i64 6]) ∧ Below w.heap.size w w' := by
  have hb : ((s.size : Int) != 17) = true := by rw [bne_iff_ne]; omega
  clear h17
  go_enter Tryd.func9, Tryd.ntmps9
  go_wp2_with fail
  go_step3
  go_wp2_with fail
  try rw [Exit.noGoto_ret]
  go_ret2
  exact ⟨rfl, Below.refl _ _⟩
end Go.Proofs.YtmgjagajcmeikalDoor
