/-
Contracts of functions of this seat.
-/
import Derived.Test.YtcnfnimgpiaamaaDoorRows
import Derived.WalkKit
import Derived.ProofKit
import Derived.OpenShut
import Derived.Test.YtcnfnimgpiaamaaDoorDcs
namespace Go.Proofs.YtcnfnimgpiaamaaDoor
open Go.ChangeShapes Go.WideShapes Go.ChangeAt Go.RowKit
set_option linter.unusedVariables false
set_option maxRecDepth 100000
/-- A hexadecimal digit's byte. -/
def hxI (q : Nat) : Int := if q < 10 then 48 + (q : Int) else 87 + (q : Int)
theorem hxI_bd (q : Nat) (h : q < 16) : 0 ≤ hxI q ∧ hxI q ≤ 255 := by unfold hxI; split <;> omega
def hexT : ByteArray := ⟨#[48, 49, 50, 51, 52, 53, 54, 55, 56, 57, 97, 98, 99, 100, 101, 102]⟩
theorem hexT_get (q : Nat) (h : q < 16) : ((hexT[q]'(show q < 16 from h)).toNat : Int) = hxI q := by
  have : ∀ q : Fin 16, ((hexT[q.val]'(show q.val < 16 from q.isLt)).toNat : Int) = hxI q.val := by decide
  exact this ⟨q, h⟩
theorem idx_hexI (q : Nat) (h : q < 16) (w : World) : (Instr.index 9 (.string ⟨#[48, 49, 50, 51, 52, 53, 54, 55, 56, 57, 97, 98, 99, 100, 101, 102]⟩) (.int .u8 (q : Int))).run Tryd.prog w = .ok (.int .u8 (hxI q)) w := by
  have e := run_index_string (P := Tryd.prog) w 9 hexT .u8 (q : Int) Tryd.underlying9
  have hq : 0 ≤ (q : Int) ∧ (q : Int) < (hexT.size : Int) := ⟨by omega, by show (q : Int) < 16; omega⟩
  rw [dif_pos hq] at e
  rw [← hexT_get q h]
  exact e
/-- Bytes as hexadecimal digits. -/
def hexL : List Int → List Int
  | [] => []
  | z :: zs => hxI (z / 16).toNat :: hxI (z % 16).toNat :: hexL zs
theorem hexL_snoc (zs : List Int) (z : Int) : hexL (zs ++ [z]) = (hexL zs ++ [hxI (z / 16).toNat]) ++ [hxI (z % 16).toNat] := by
  induction zs with
  | nil => rfl
  | cons y zs ih => simp [hexL, ih]
theorem hexL_len (zs : List Int) : (hexL zs).length = 2 * zs.length := by
  induction zs with
  | nil => rfl
  | cons y zs ih => simp [hexL, ih]; omega
set_option maxHeartbeats 4000000 in
theorem l11Hex_walk (a : Option Addr) (n cap : Nat) (zs : List Int) (w : World) (hn : zs.length = n) (ha : Arr w a zs) (hm : n ≤ 1048576) :
    Calls Tryd.prog 30 #[.slice a n cap] w fun e w' => e = .returned (.string (strB (hexL zs))) ∧ Below w.heap.size w w' := by
  obtain ⟨i, hi, hz0, hz1, hz2⟩ := info_parts Tryd.infoB
  have HN := hide hn
  have HA := hide ha
  clear hn ha
  have hst : OwnB (w.alloc (.cells #[] 5)) w.heap.size (.slice (some ⟨w.heap.size, 0, none⟩) 0 0) [] :=
    ⟨World.ownsRow_lit (base := w.heap.size) (e := 5) (size := 1) w #[] 0 (Nat.le_refl _) (by decide) rfl, by simp⟩
  have HST := hide hst
  have hb0 := (Below.refl w.heap.size w).alloc (Nat.le_refl _) (.cells #[] 5)
  clear hst
  go_enter Tryd.func30, Tryd.ntmps30
  go_wp2_with fail
  generalize w.alloc (.cells #[] 5) = W at *
  go_loopw [4, 5] (fun o t w2 => ∃ k : Nat, k ≤ n ∧ t = .int .i64 k ∧ Hid (OwnB w2 w.heap.size o (hexL (zs.take k))) ∧ Below w.heap.size w w2) (fun _ t _ => n - (intOf t).toNat)
  case atStart => exact ⟨0, Nat.zero_le _, rfl, HST, hb0⟩
  case round =>
    obtain ⟨k, hk, rfl, HO, hb⟩ := hrel
    clear hb0
    by_cases hlt : k < n
    · have hkz : k < zs.length := by rw [HN.out]; exact hlt
      obtain ⟨b, off, rfl, hbs, hc⟩ := HA.out.2 k hkz
      have hc2 : wr.cell? ⟨b, off + k, none⟩ = some (.int .u8 (zs.getD k 0)) := by rw [hb.cell (p := ⟨b, off + k, none⟩) hbs]; exact hc
      have hzb := getD_bd HA.out.1 k
      have HT : Hid (hexL (zs.take (k + 1)) = (hexL (zs.take k) ++ [hxI (zs.getD k 0 / 16).toNat]) ++ [hxI (zs.getD k 0 % 16).toNat]) := hide (by rw [← hexL_snoc, List.take_succ_eq_append_getElem hkz, List.getD_eq_getElem?_getD, List.getElem?_eq_getElem hkz]; rfl)
      have hl : (hexL (zs.take k)).length ≤ 2097152 := by rw [hexL_len, List.length_take]; omega
      have HL := hide hl
      clear hc hl
      generalize zs.getD k 0 = z at *
      obtain ⟨q, hq⟩ := Int.eq_ofNat_of_zero_le (show 0 ≤ z / 16 by omega)
      obtain ⟨r, hr⟩ := Int.eq_ofNat_of_zero_le (show 0 ≤ z % 16 by omega)
      have hq16 : q < 16 := by omega
      have hr16 : r < 16 := by omega
      have HT2 : Hid (hexL (zs.take (k + 1)) = (hexL (zs.take k) ++ [hxI q]) ++ [hxI r]) := hide (by rw [HT.out, hq, hr, Int.toNat_natCast, Int.toNat_natCast])
      have i1 := idx_hexI q hq16
      have i2 := idx_hexI r hr16
      have e15 : bits .and .u8 z 15 = (r : Int) := (and_15_u8 z).trans hr
      have b1 := hxI_bd q hq16
      have b2 := hxI_bd r hr16
      clear HT hr
      generalize hxI q = x1 at *
      generalize hxI r = x2 at *
      go_wp2_with (first | (at_builtin; refine wpList_append_own _ rfl _ _ 23 rfl w.heap.size 5 i _ 1 1 Tryd.underlying23 hi hz0 hz1 hz2 rfl (by decide) u4 (hexL (zs.take k)).length (bval (hexL (zs.take k))) rfl (HO.out.1.alloc _) ⟨wr.heap.size, 0, none⟩ 1 1 (bval [x1]) rfl rfl (cell_one _ _ _) (oneCells _) (by have := HL.out; unfold maxLen; omega) (by have := HL.out; omega) (by have := hb.size; rw [World.size_alloc]; omega) ?_))
      intro v' w3 hown' hgrow hnil
      have hlo := HO.out.1.lt
      have HO3 := hide (OwnB.app hown' (by simp) HO.out.2 (by intro y hy; simp at hy; subst hy; omega))
      have hb3 : Below w.heap.size w w3 := (hb.alloc hb.size _).grown hgrow (by have := hb.size; rw [World.size_alloc]; omega) (fun k hk => (hlo k hk).1)
      have hc3 : w3.cell? ⟨b, off + k, none⟩ = some (.int .u8 z) := by rw [hb3.cell (p := ⟨b, off + k, none⟩) hbs, ← hb.cell (p := ⟨b, off + k, none⟩) hbs]; exact hc2
      clear hown' hnil hgrow hlo hc2 HO
      have hb := hb3
      go_wp2_with (first | (at_builtin; refine wpList_append_own _ rfl _ _ 23 rfl w.heap.size 5 i _ 1 1 Tryd.underlying23 hi hz0 hz1 hz2 rfl (by decide) v' (hexL (zs.take k) ++ [x1]).length (bval (hexL (zs.take k) ++ [x1])) rfl (HO3.out.1.alloc _) ⟨w3.heap.size, 0, none⟩ 1 1 (bval [x2]) rfl rfl (cell_one _ _ _) (oneCells _) (by have := HL.out; unfold maxLen; rw [List.length_append]; simp; omega) (by have := HL.out; rw [List.length_append]; simp; omega) (by have := hb.size; rw [World.size_alloc]; omega) ?_))
      intro v4 w4 hown4 hgrow4 hnil4
      have hlo4 := HO3.out.1.lt
      have HO4 := hide (OwnB.app hown4 (by simp) HO3.out.2 (by intro y hy; simp at hy; subst hy; omega))
      have hb4 : Below w.heap.size w w4 := (hb.alloc hb.size _).grown hgrow4 (by have := hb.size; rw [World.size_alloc]; omega) (fun k hk => (hlo4 k hk).1)
      clear hown4 hnil4 hgrow4 hlo4 hc3 HO3
      go_wp2_with fail
      exact ⟨⟨k + 1, by omega, by go_num, hide (by rw [HT2.out]; exact HO4.out), hb4⟩, by simp [intOf]; omega⟩
    · have hk' : k = n := by omega
      subst hk'
      have HE : Hid (zs.take k = zs) := hide (List.take_of_length_le (by rw [HN.out]; exact Nat.le_refl _))
      rw [HE.out] at HO
      obtain ⟨a9, c9, rfl, ha9, _⟩ := HO.out.arr
      have cv := conv_str a9 _ c9 _ wr rfl ha9
      generalize hln : (hexL zs).length = ln at *
      go_wp2_with fail
      go_ret
      exact ⟨rfl, hb⟩
theorem arrI_six (W : World) (t : Nat) : ∀ i, i < 6 → (W.alloc (.cells #[.int .i64 2, .int .i64 1, .int .i64 4, .int .i64 8, .int .i64 16, .int .i64 32] t)).cell? ⟨W.heap.size, i, none⟩ = some (.int .i64 ([2, 1, 4, 8, 16, 32].getD i 0)) := by
  intro j hj
  have h : HoldV (W.alloc (.cells #[.int .i64 2, .int .i64 1, .int .i64 4, .int .i64 8, .int .i64 16, .int .i64 32] t)) W.heap.size #[.int .i64 2, .int .i64 1, .int .i64 4, .int .i64 8, .int .i64 16, .int .i64 32] t := heap_alloc_new _ _
  match j, hj with
  | 0, _ => exact h.cell 0 _ rfl
  | 1, _ => exact h.cell 1 _ rfl
  | 2, _ => exact h.cell 2 _ rfl
  | 3, _ => exact h.cell 3 _ rfl
  | 4, _ => exact h.cell 4 _ rfl
  | 5, _ => exact h.cell 5 _ rfl
/-- The flag of a letter's place. -/
def bitL (i : Nat) : Int := [2, 1, 4, 8, 16, 32].getD i 0
theorem l11Bit_walk (i : Nat) (hi : i < 6) (w : World) :
    Calls Tryd.prog 29 #[.int .i64 (i : Int)] w fun e w' => e = .returned (.int .i64 (bitL i)) ∧ Below w.heap.size w w' := by
  have hc := arrI_six w 2 i hi
  have hb0 := (Below.refl w.heap.size w).alloc (Nat.le_refl _) (.cells #[.int .i64 2, .int .i64 1, .int .i64 4, .int .i64 8, .int .i64 16, .int .i64 32] 2)
  have hi6 : (i : Int) < 6 := by omega
  change _ = some (Value.int IntKind.i64 (bitL i)) at hc
  generalize bitL i = y at *
  go_enter Tryd.func29, Tryd.ntmps29
  go_wp2_with fail
  go_ret
  exact ⟨rfl, hb0⟩
end Go.Proofs.YtcnfnimgpiaamaaDoor
