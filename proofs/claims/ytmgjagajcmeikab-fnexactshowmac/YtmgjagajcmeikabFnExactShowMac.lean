/-
At every input the law FnExactShowMac of the landed program answers true, and its arguments read afterwards as before.
No conditions.
-/
import Derived.Test.YtmgjagajcmeikabRows
import Derived.WalkKit
import Derived.ProofKit
import Derived.OpenShut
import Derived.Test.YtmgjagajcmeikabShow
import Derived.Laws.IdiomStrings
import Derived.Test.YtmgjagajcmeikabRows
import Derived.ShutString
import Derived.Below
namespace Go.Proofs.Ytmgjagajcmeikab
open Go.ChangeShapes Go.WideShapes Go.ChangeAt Go.RowKit
set_option linter.unusedVariables false
theorem idx0 (a b c d e f : Int) (w : World) : (Instr.index 37 (.agg #[.int .u8 a, .int .u8 b, .int .u8 c, .int .u8 d, .int .u8 e, .int .u8 f]) (.int .i64 0)).run Try.prog w = .ok (.int .u8 a) w := by
  have u3 := Try.underlying5
  have a3 := Try.isAgg5
  have z3 := Try.sizeOf5
  simp only [Instr.index, Sem.run_bind, run_underlying Try.underlying37, Result.andThen_ok]
  go_simp
theorem idx1 (a b c d e f : Int) (w : World) : (Instr.index 37 (.agg #[.int .u8 a, .int .u8 b, .int .u8 c, .int .u8 d, .int .u8 e, .int .u8 f]) (.int .i64 1)).run Try.prog w = .ok (.int .u8 b) w := by
  have u3 := Try.underlying5
  have a3 := Try.isAgg5
  have z3 := Try.sizeOf5
  simp only [Instr.index, Sem.run_bind, run_underlying Try.underlying37, Result.andThen_ok]
  go_simp
theorem idx2 (a b c d e f : Int) (w : World) : (Instr.index 37 (.agg #[.int .u8 a, .int .u8 b, .int .u8 c, .int .u8 d, .int .u8 e, .int .u8 f]) (.int .i64 2)).run Try.prog w = .ok (.int .u8 c) w := by
  have u3 := Try.underlying5
  have a3 := Try.isAgg5
  have z3 := Try.sizeOf5
  simp only [Instr.index, Sem.run_bind, run_underlying Try.underlying37, Result.andThen_ok]
  go_simp
theorem idx3 (a b c d e f : Int) (w : World) : (Instr.index 37 (.agg #[.int .u8 a, .int .u8 b, .int .u8 c, .int .u8 d, .int .u8 e, .int .u8 f]) (.int .i64 3)).run Try.prog w = .ok (.int .u8 d) w := by
  have u3 := Try.underlying5
  have a3 := Try.isAgg5
  have z3 := Try.sizeOf5
  simp only [Instr.index, Sem.run_bind, run_underlying Try.underlying37, Result.andThen_ok]
  go_simp
theorem idx4 (a b c d e f : Int) (w : World) : (Instr.index 37 (.agg #[.int .u8 a, .int .u8 b, .int .u8 c, .int .u8 d, .int .u8 e, .int .u8 f]) (.int .i64 4)).run Try.prog w = .ok (.int .u8 e) w := by
  have u3 := Try.underlying5
  have a3 := Try.isAgg5
  have z3 := Try.sizeOf5
  simp only [Instr.index, Sem.run_bind, run_underlying Try.underlying37, Result.andThen_ok]
  go_simp
theorem idx5 (a b c d e f : Int) (w : World) : (Instr.index 37 (.agg #[.int .u8 a, .int .u8 b, .int .u8 c, .int .u8 d, .int .u8 e, .int .u8 f]) (.int .i64 5)).run Try.prog w = .ok (.int .u8 f) w := by
  have u3 := Try.underlying5
  have a3 := Try.isAgg5
  have z3 := Try.sizeOf5
  simp only [Instr.index, Sem.run_bind, run_underlying Try.underlying37, Result.andThen_ok]
  go_simp
theorem hexS_get (q : Nat) (h : q < 16) : hexS[q]'(show q < 16 from h) = hxb q := by
  have : ∀ q : Fin 16, hexS[q.val]'(show q.val < 16 from q.isLt) = hxb q.val := by decide
  exact this ⟨q, h⟩
theorem idx_hex (q : Nat) (h : q < 16) (w : World) : (Instr.index 9 (.string ⟨#[48, 49, 50, 51, 52, 53, 54, 55, 56, 57, 97, 98, 99, 100, 101, 102]⟩) (.int .u8 (q : Int))).run Try.prog w = .ok (.int .u8 ((hxb q).toNat : Int)) w := by
  have e := run_index_string (P := Try.prog) w 9 hexS .u8 (q : Int) Try.underlying9
  have hq : 0 ≤ (q : Int) ∧ (q : Int) < (hexS.size : Int) := ⟨by omega, by show (q : Int) < 16; omega⟩
  rw [dif_pos hq] at e
  rw [← hexS_get q h]
  exact e

theorem isMac_walk (a : Int) (w : World) :
    Calls Try.prog 31 #[.int .i64 a] w fun e w' => e = .returned (.bool (macOKB a)) ∧ w' = w := by
  by_cases h1 : 0 ≤ a
  · by_cases h2 : a ≤ 281474976710655
    · have e := hide (macOKB_iff.2 ⟨h1, h2⟩)
      go_enter Try.func31, Try.ntmps31
      go_wp2
      go_ret
      exact ⟨ret_bool e.out.symm, rfl⟩
    · have e : Hid (macOKB a = false) := hide (by unfold macOKB; simp; omega)
      go_enter Try.func31, Try.ntmps31
      go_wp2
      go_ret
      exact ⟨ret_bool e.out.symm, rfl⟩
  · have e : Hid (macOKB a = false) := hide (by unfold macOKB; simp; omega)
    go_enter Try.func31, Try.ntmps31
    go_wp2
    go_ret
    exact ⟨ret_bool e.out.symm, rfl⟩
theorem show_no (m : Int) (w : World) (h : macOKB m = false) :
    Calls Try.prog 20 #[.int .i64 m] w fun e w' => e = .returned (.tuple #[.string ⟨#[]⟩, .int .i64 1]) ∧ Below w.heap.size w w' := by
  go_enter Try.func20, Try.ntmps20
  go_wp2_with (go_at_call 31; refine (isMac_walk _ _).mono ?_; rintro e w' ⟨rfl, rfl⟩)
  go_ret2
  exact ⟨rfl, Below.refl _ _⟩
/-- The text's bytes as the program lays them: a sign ahead of each byte but the first. -/
def macM (m : Int) : Nat → List Int
  | 0 => []
  | k + 1 => (if 0 < k then macM m k ++ [58] else macM m k) ++ [((hxb (hiN m k)).toNat : Int), ((hxb (loN m k)).toNat : Int)]
attribute [local go_sem] idx0 idx1 idx2 idx3 idx4 idx5 and_15_u8
theorem cell_two' (w : World) (x y : Int) (t : Nat) : ∀ j u, (bval [x, y])[j]? = some u → (w.alloc (.cells #[.int .u8 x, .int .u8 y] t)).cell? ((⟨w.heap.size, 0, none⟩ : Addr).add j) = some u := by
  intro j u hu
  match j with
  | 0 =>
    simp [bval] at hu
    subst hu
    rw [Addr.add_lit]
    exact cell_of_row _ w.heap.size 0 _ t (0, 0) (heap_alloc_new w _)
  | 1 =>
    simp [bval] at hu
    subst hu
    rw [Addr.add_lit]
    exact cell_of_row _ w.heap.size 1 _ t (0, 0) (heap_alloc_new w _)
  | k + 2 => simp [bval] at hu
theorem hxb_bd (q : Nat) : 0 ≤ ((hxb q).toNat : Int) ∧ ((hxb q).toNat : Int) ≤ 255 := by have := (hxb q).toNat_lt; omega
/-- The text's bytes, written out. -/
def macU (m : Int) : List UInt8 := [hxb (hiN m 0), hxb (loN m 0), 58, hxb (hiN m 1), hxb (loN m 1), 58, hxb (hiN m 2), hxb (loN m 2), 58, hxb (hiN m 3), hxb (loN m 3), 58, hxb (hiN m 4), hxb (loN m 4), 58, hxb (hiN m 5), hxb (loN m 5)]
theorem macM_six (m : Int) : macM m 6 = (macU m).map (fun b => (b.toNat : Int)) := by simp [macM, macU]
theorem hiN_lt (m : Int) (k : Nat) : hiN m k < 16 := by have := byteOf_bd m 6 k; unfold hiN; omega
theorem loN_lt (m : Int) (k : Nat) : loN m k < 16 := by unfold loN; omega
theorem push_bytes (l : List UInt8) (x : UInt8) : (⟨l.toArray⟩ : ByteArray) ++ (⟨#[x]⟩ : ByteArray) = ⟨(l ++ [x]).toArray⟩ := by
  apply ByteArray.ext
  simp [ByteArray.data_append]
def macV (m : Int) : Nat → List UInt8
  | 0 => []
  | k + 1 => if k < 5 then ((macV m k ++ [hxb (hiN m k)]) ++ [hxb (loN m k)]) ++ [58] else (macV m k ++ [hxb (hiN m k)]) ++ [hxb (loN m k)]
theorem macL_eq (m : Int) : ∀ k, macL m k = ⟨(macV m k).toArray⟩
  | 0 => rfl
  | k + 1 => by
    rw [macL, macV, macL_eq m k, hx_eq _ (hiN_lt m k), hx_eq _ (loN_lt m k), push_bytes, push_bytes, push_bytes]
    split <;> rfl
theorem macU_text (m : Int) : (⟨(macU m).toArray⟩ : ByteArray) = macL m 6 := by
  rw [macL_eq m 6]; rfl
theorem OwnB.form {w : World} {B : Nat} {v : Value} {zs : List Int} (h : OwnB w B v zs) (hp : 0 < zs.length) : ∃ g cap, v = .slice (some ⟨g, 0, none⟩) zs.length cap ∧ B ≤ g ∧ g < w.heap.size := by
  rcases h.1.2 with ⟨_, hn⟩ | ⟨g, cap, cur, hv, hB, hg, _⟩
  · omega
  · refine ⟨g, cap, hv, hB, ?_⟩
    by_cases hlt : g < w.heap.size
    · exact hlt
    · rw [Array.getElem?_eq_none (by omega)] at hg; cases hg
theorem macM_succ (m : Int) (k : Nat) : macM m (k + 1) = (if 0 < k then macM m k ++ [58] else macM m k) ++ [((hxb (hiN m k)).toNat : Int), ((hxb (loN m k)).toNat : Int)] := rfl
theorem macM_len (m : Int) : ∀ k, k ≤ 6 → (macM m k).length ≤ 18 := by
  have h : ∀ k, (macM m k).length ≤ 3 * k := by
    intro k
    induction k with
    | zero => simp [macM]
    | succ k ih =>
      rw [macM]
      split <;> simp <;> omega
  intro k hk
  have := h k
  omega
set_option maxHeartbeats 2000000 in
theorem show_yes (m : Int) (w : World) (h : macOKB m = true) :
    Calls Try.prog 20 #[.int .i64 m] w fun e w' => e = .returned (.tuple #[.string (macL m 6), .int .i64 0]) ∧ Below w.heap.size w w' := by
  obtain ⟨h0, h1⟩ := macOKB_iff.1 h
  obtain ⟨i, hi, hz0, hz1, hz2⟩ := info_parts Try.infoB
  have HI := hide hi
  have HZ0 := hide hz0
  have HZ1 := hide hz1
  have HZ2 := hide hz2
  clear hi hz0 hz1 hz2
  go_enter Try.func20, Try.ntmps20
  go_wp2_with fail
  refine (isMac_walk _ _).mono ?_
  rw [h]
  rintro e w' ⟨rfl, hw'⟩
  rw [hw']
  clear hw' h
  go_wp2_with fail
  refine (splitMac_walk m _).mono ?_
  rintro e w1 ⟨rfl, hb1⟩
  go_wp2_with fail
  go_loopw [4, 12] (fun o t w2 => ∃ (k : Nat), k ≤ 6 ∧ t = .int .i64 k ∧ Hid (OwnB w2 w1.heap.size o (macM m k)) ∧ Below w1.heap.size w1 w2) (fun _ t _ => 6 - (intOf t).toNat)
  case atStart => exact ⟨0, by omega, rfl, hide ⟨World.ownsRow_nil _ _ _ _, by simp [macM]⟩, Below.refl _ _⟩
  case round =>
    obtain ⟨k, hk, rfl, HO, hb⟩ := hrel
    by_cases hlt : k < 6
    · have bb := byteOf_bd m 6 k
      have HHI : Hid (hiN m k = (byteOf m 6 k / 16).toNat) := rfl
      have HLO : Hid (loN m k = (byteOf m 6 k % 16).toNat) := rfl
      obtain ⟨q, hq⟩ := Int.eq_ofNat_of_zero_le (show 0 ≤ byteOf m 6 k / 16 by omega)
      obtain ⟨r, hr⟩ := Int.eq_ofNat_of_zero_le (show 0 ≤ byteOf m 6 k % 16 by omega)
      have hq16 : q < 16 := by omega
      have hr16 : r < 16 := by omega
      have i1 := idx_hex q hq16
      have i2 := idx_hex r hr16
      have HHI2 : Hid (hiN m k = q) := hide (by rw [HHI.out, hq, Int.toNat_natCast])
      have HLO2 : Hid (loN m k = r) := hide (by rw [HLO.out, hr, Int.toNat_natCast])
      clear HHI HLO
      rcases (show k = 0 ∨ k = 1 ∨ k = 2 ∨ k = 3 ∨ k = 4 ∨ k = 5 by omega) with rfl | rfl | rfl | rfl | rfl | rfl
      · have hl0 : (macM m 0).length = 0 := rfl
        go_wp2_with fail
        go_region_law (refine step_append_own rfl (.tmp 21) (.tmp 28) 25 rfl w1.heap.size 5 i _ 1 1 Try.underlying25 HI.out HZ0.out HZ1.out HZ2.out rfl (by decide) u4 (macM m 0).length (bval (macM m 0)) (by simp [Act.eval]) (by exact World.ownsRow.drew (HO.out.1.alloc _)) ⟨wr.heap.size, 0, none⟩ 2 2 (bval [((hxb q).toNat : Int), ((hxb r).toNat : Int)]) (by simp [Act.eval]) rfl (by exact cell_two' wr _ _ _) (oneCells _) (by unfold maxLen; omega) (by omega) (by show _ ≤ (World.alloc _ _).heap.size; rw [World.size_alloc]; have := hb.size; omega) ?_; intro v3 w3 hown3 hgrow3 hnil3)
        all_goals
          have hO3 := OwnB.app hown3 rfl HO.out.2 (by intro z hz; simp at hz; rcases hz with rfl | rfl; exact hxb_bd _; exact hxb_bd _)
          have HO3 : Hid (OwnB w3 w1.heap.size v3 (macM m 1)) := hide (by
            have e : macM m 1 = (macM m 0) ++ [((hxb q).toNat : Int), ((hxb r).toNat : Int)] := by rw [macM_succ m 0, HHI2.out, HLO2.out]; rfl
            rw [e]; exact hO3)
          have hlo := HO.out.1.lt
          have hb3 : Below w1.heap.size w1 w3 := ((hb.alloc hb.size _).drew).grown hgrow3 (by show _ ≤ (World.alloc _ _).heap.size; rw [World.size_alloc]; have := hb.size; omega) (fun k hk => (hlo k hk).1)
          clear hO3 hown3 hgrow3 hnil3 hlo
          go_wp2_with fail
          exact ⟨⟨1, by omega, by go_num, HO3, hb3⟩, by simp [intOf]⟩
      · have hl0 : (macM m 1).length ≤ 18 := macM_len m 1 (by omega)
        go_wp2_with (first | (at_builtin; refine wpList_append_own _ rfl _ _ 25 rfl w1.heap.size 5 i _ 1 1 Try.underlying25 HI.out HZ0.out HZ1.out HZ2.out rfl (by decide) u4 (macM m 1).length (bval (macM m 1)) rfl (HO.out.1.alloc _) ⟨wr.heap.size, 0, none⟩ 1 1 (bval [58]) rfl rfl (cell_one _ _ _) (oneCells _) (by unfold maxLen; omega) (by omega) (by have := hb.size; rw [World.size_alloc]; omega) ?_))
        intro v2 w2 hown2 hgrow2 hnil2
        have hO2 := OwnB.app hown2 rfl HO.out.2 (by intro z hz; simp at hz; subst hz; decide)
        have HO2 := hide hO2
        have hl2 : (macM m 1 ++ [58]).length ≤ 19 := by rw [List.length_append]; show _ + 1 ≤ 19; omega
        have hlo2 := HO.out.1.lt
        have hb2 : Below w1.heap.size w1 w2 := (hb.alloc hb.size _).grown hgrow2 (by have := hb.size; rw [World.size_alloc]; omega) (fun k hk => (hlo2 k hk).1)
        clear hO2 hown2 hgrow2 hnil2 hlo2
        go_wp2_with fail
        go_region_law (refine step_append_own rfl (.tmp 21) (.tmp 28) 25 rfl w1.heap.size 5 i _ 1 1 Try.underlying25 HI.out HZ0.out HZ1.out HZ2.out rfl (by decide) v2 (macM m 1 ++ [58]).length (bval (macM m 1 ++ [58])) (by simp [Act.eval]) (by exact World.ownsRow.drew (HO2.out.1.alloc _)) ⟨w2.heap.size, 0, none⟩ 2 2 (bval [((hxb q).toNat : Int), ((hxb r).toNat : Int)]) (by simp [Act.eval]) rfl (by exact cell_two' w2 _ _ _) (oneCells _) (by unfold maxLen; omega) (by omega) (by show _ ≤ (World.alloc _ _).heap.size; rw [World.size_alloc]; have := hb2.size; omega) ?_; intro v3 w3 hown3 hgrow3 hnil3)
        all_goals
          have hO3 := OwnB.app hown3 rfl HO2.out.2 (by intro z hz; simp at hz; rcases hz with rfl | rfl; exact hxb_bd _; exact hxb_bd _)
          have HO3 : Hid (OwnB w3 w1.heap.size v3 (macM m 2)) := hide (by
            have e : macM m 2 = (macM m 1 ++ [58]) ++ [((hxb q).toNat : Int), ((hxb r).toNat : Int)] := by rw [macM_succ m 1, HHI2.out, HLO2.out]; rfl
            rw [e]; exact hO3)
          have hlo := HO2.out.1.lt
          have hb3 : Below w1.heap.size w1 w3 := ((hb2.alloc hb2.size _).drew).grown hgrow3 (by show _ ≤ (World.alloc _ _).heap.size; rw [World.size_alloc]; have := hb2.size; omega) (fun k hk => (hlo k hk).1)
          clear hO3 hown3 hgrow3 hnil3 hlo
          go_wp2_with fail
          exact ⟨⟨2, by omega, by go_num, HO3, hb3⟩, by simp [intOf]⟩
      · have hl0 : (macM m 2).length ≤ 18 := macM_len m 2 (by omega)
        go_wp2_with (first | (at_builtin; refine wpList_append_own _ rfl _ _ 25 rfl w1.heap.size 5 i _ 1 1 Try.underlying25 HI.out HZ0.out HZ1.out HZ2.out rfl (by decide) u4 (macM m 2).length (bval (macM m 2)) rfl (HO.out.1.alloc _) ⟨wr.heap.size, 0, none⟩ 1 1 (bval [58]) rfl rfl (cell_one _ _ _) (oneCells _) (by unfold maxLen; omega) (by omega) (by have := hb.size; rw [World.size_alloc]; omega) ?_))
        intro v2 w2 hown2 hgrow2 hnil2
        have hO2 := OwnB.app hown2 rfl HO.out.2 (by intro z hz; simp at hz; subst hz; decide)
        have HO2 := hide hO2
        have hl2 : (macM m 2 ++ [58]).length ≤ 19 := by rw [List.length_append]; show _ + 1 ≤ 19; omega
        have hlo2 := HO.out.1.lt
        have hb2 : Below w1.heap.size w1 w2 := (hb.alloc hb.size _).grown hgrow2 (by have := hb.size; rw [World.size_alloc]; omega) (fun k hk => (hlo2 k hk).1)
        clear hO2 hown2 hgrow2 hnil2 hlo2
        go_wp2_with fail
        go_region_law (refine step_append_own rfl (.tmp 21) (.tmp 28) 25 rfl w1.heap.size 5 i _ 1 1 Try.underlying25 HI.out HZ0.out HZ1.out HZ2.out rfl (by decide) v2 (macM m 2 ++ [58]).length (bval (macM m 2 ++ [58])) (by simp [Act.eval]) (by exact World.ownsRow.drew (HO2.out.1.alloc _)) ⟨w2.heap.size, 0, none⟩ 2 2 (bval [((hxb q).toNat : Int), ((hxb r).toNat : Int)]) (by simp [Act.eval]) rfl (by exact cell_two' w2 _ _ _) (oneCells _) (by unfold maxLen; omega) (by omega) (by show _ ≤ (World.alloc _ _).heap.size; rw [World.size_alloc]; have := hb2.size; omega) ?_; intro v3 w3 hown3 hgrow3 hnil3)
        all_goals
          have hO3 := OwnB.app hown3 rfl HO2.out.2 (by intro z hz; simp at hz; rcases hz with rfl | rfl; exact hxb_bd _; exact hxb_bd _)
          have HO3 : Hid (OwnB w3 w1.heap.size v3 (macM m 3)) := hide (by
            have e : macM m 3 = (macM m 2 ++ [58]) ++ [((hxb q).toNat : Int), ((hxb r).toNat : Int)] := by rw [macM_succ m 2, HHI2.out, HLO2.out]; rfl
            rw [e]; exact hO3)
          have hlo := HO2.out.1.lt
          have hb3 : Below w1.heap.size w1 w3 := ((hb2.alloc hb2.size _).drew).grown hgrow3 (by show _ ≤ (World.alloc _ _).heap.size; rw [World.size_alloc]; have := hb2.size; omega) (fun k hk => (hlo k hk).1)
          clear hO3 hown3 hgrow3 hnil3 hlo
          go_wp2_with fail
          exact ⟨⟨3, by omega, by go_num, HO3, hb3⟩, by simp [intOf]⟩
      · have hl0 : (macM m 3).length ≤ 18 := macM_len m 3 (by omega)
        go_wp2_with (first | (at_builtin; refine wpList_append_own _ rfl _ _ 25 rfl w1.heap.size 5 i _ 1 1 Try.underlying25 HI.out HZ0.out HZ1.out HZ2.out rfl (by decide) u4 (macM m 3).length (bval (macM m 3)) rfl (HO.out.1.alloc _) ⟨wr.heap.size, 0, none⟩ 1 1 (bval [58]) rfl rfl (cell_one _ _ _) (oneCells _) (by unfold maxLen; omega) (by omega) (by have := hb.size; rw [World.size_alloc]; omega) ?_))
        intro v2 w2 hown2 hgrow2 hnil2
        have hO2 := OwnB.app hown2 rfl HO.out.2 (by intro z hz; simp at hz; subst hz; decide)
        have HO2 := hide hO2
        have hl2 : (macM m 3 ++ [58]).length ≤ 19 := by rw [List.length_append]; show _ + 1 ≤ 19; omega
        have hlo2 := HO.out.1.lt
        have hb2 : Below w1.heap.size w1 w2 := (hb.alloc hb.size _).grown hgrow2 (by have := hb.size; rw [World.size_alloc]; omega) (fun k hk => (hlo2 k hk).1)
        clear hO2 hown2 hgrow2 hnil2 hlo2
        go_wp2_with fail
        go_region_law (refine step_append_own rfl (.tmp 21) (.tmp 28) 25 rfl w1.heap.size 5 i _ 1 1 Try.underlying25 HI.out HZ0.out HZ1.out HZ2.out rfl (by decide) v2 (macM m 3 ++ [58]).length (bval (macM m 3 ++ [58])) (by simp [Act.eval]) (by exact World.ownsRow.drew (HO2.out.1.alloc _)) ⟨w2.heap.size, 0, none⟩ 2 2 (bval [((hxb q).toNat : Int), ((hxb r).toNat : Int)]) (by simp [Act.eval]) rfl (by exact cell_two' w2 _ _ _) (oneCells _) (by unfold maxLen; omega) (by omega) (by show _ ≤ (World.alloc _ _).heap.size; rw [World.size_alloc]; have := hb2.size; omega) ?_; intro v3 w3 hown3 hgrow3 hnil3)
        all_goals
          have hO3 := OwnB.app hown3 rfl HO2.out.2 (by intro z hz; simp at hz; rcases hz with rfl | rfl; exact hxb_bd _; exact hxb_bd _)
          have HO3 : Hid (OwnB w3 w1.heap.size v3 (macM m 4)) := hide (by
            have e : macM m 4 = (macM m 3 ++ [58]) ++ [((hxb q).toNat : Int), ((hxb r).toNat : Int)] := by rw [macM_succ m 3, HHI2.out, HLO2.out]; rfl
            rw [e]; exact hO3)
          have hlo := HO2.out.1.lt
          have hb3 : Below w1.heap.size w1 w3 := ((hb2.alloc hb2.size _).drew).grown hgrow3 (by show _ ≤ (World.alloc _ _).heap.size; rw [World.size_alloc]; have := hb2.size; omega) (fun k hk => (hlo k hk).1)
          clear hO3 hown3 hgrow3 hnil3 hlo
          go_wp2_with fail
          exact ⟨⟨4, by omega, by go_num, HO3, hb3⟩, by simp [intOf]⟩
      · have hl0 : (macM m 4).length ≤ 18 := macM_len m 4 (by omega)
        go_wp2_with (first | (at_builtin; refine wpList_append_own _ rfl _ _ 25 rfl w1.heap.size 5 i _ 1 1 Try.underlying25 HI.out HZ0.out HZ1.out HZ2.out rfl (by decide) u4 (macM m 4).length (bval (macM m 4)) rfl (HO.out.1.alloc _) ⟨wr.heap.size, 0, none⟩ 1 1 (bval [58]) rfl rfl (cell_one _ _ _) (oneCells _) (by unfold maxLen; omega) (by omega) (by have := hb.size; rw [World.size_alloc]; omega) ?_))
        intro v2 w2 hown2 hgrow2 hnil2
        have hO2 := OwnB.app hown2 rfl HO.out.2 (by intro z hz; simp at hz; subst hz; decide)
        have HO2 := hide hO2
        have hl2 : (macM m 4 ++ [58]).length ≤ 19 := by rw [List.length_append]; show _ + 1 ≤ 19; omega
        have hlo2 := HO.out.1.lt
        have hb2 : Below w1.heap.size w1 w2 := (hb.alloc hb.size _).grown hgrow2 (by have := hb.size; rw [World.size_alloc]; omega) (fun k hk => (hlo2 k hk).1)
        clear hO2 hown2 hgrow2 hnil2 hlo2
        go_wp2_with fail
        go_region_law (refine step_append_own rfl (.tmp 21) (.tmp 28) 25 rfl w1.heap.size 5 i _ 1 1 Try.underlying25 HI.out HZ0.out HZ1.out HZ2.out rfl (by decide) v2 (macM m 4 ++ [58]).length (bval (macM m 4 ++ [58])) (by simp [Act.eval]) (by exact World.ownsRow.drew (HO2.out.1.alloc _)) ⟨w2.heap.size, 0, none⟩ 2 2 (bval [((hxb q).toNat : Int), ((hxb r).toNat : Int)]) (by simp [Act.eval]) rfl (by exact cell_two' w2 _ _ _) (oneCells _) (by unfold maxLen; omega) (by omega) (by show _ ≤ (World.alloc _ _).heap.size; rw [World.size_alloc]; have := hb2.size; omega) ?_; intro v3 w3 hown3 hgrow3 hnil3)
        all_goals
          have hO3 := OwnB.app hown3 rfl HO2.out.2 (by intro z hz; simp at hz; rcases hz with rfl | rfl; exact hxb_bd _; exact hxb_bd _)
          have HO3 : Hid (OwnB w3 w1.heap.size v3 (macM m 5)) := hide (by
            have e : macM m 5 = (macM m 4 ++ [58]) ++ [((hxb q).toNat : Int), ((hxb r).toNat : Int)] := by rw [macM_succ m 4, HHI2.out, HLO2.out]; rfl
            rw [e]; exact hO3)
          have hlo := HO2.out.1.lt
          have hb3 : Below w1.heap.size w1 w3 := ((hb2.alloc hb2.size _).drew).grown hgrow3 (by show _ ≤ (World.alloc _ _).heap.size; rw [World.size_alloc]; have := hb2.size; omega) (fun k hk => (hlo k hk).1)
          clear hO3 hown3 hgrow3 hnil3 hlo
          go_wp2_with fail
          exact ⟨⟨5, by omega, by go_num, HO3, hb3⟩, by simp [intOf]⟩
      · have hl0 : (macM m 5).length ≤ 18 := macM_len m 5 (by omega)
        go_wp2_with (first | (at_builtin; refine wpList_append_own _ rfl _ _ 25 rfl w1.heap.size 5 i _ 1 1 Try.underlying25 HI.out HZ0.out HZ1.out HZ2.out rfl (by decide) u4 (macM m 5).length (bval (macM m 5)) rfl (HO.out.1.alloc _) ⟨wr.heap.size, 0, none⟩ 1 1 (bval [58]) rfl rfl (cell_one _ _ _) (oneCells _) (by unfold maxLen; omega) (by omega) (by have := hb.size; rw [World.size_alloc]; omega) ?_))
        intro v2 w2 hown2 hgrow2 hnil2
        have hO2 := OwnB.app hown2 rfl HO.out.2 (by intro z hz; simp at hz; subst hz; decide)
        have HO2 := hide hO2
        have hl2 : (macM m 5 ++ [58]).length ≤ 19 := by rw [List.length_append]; show _ + 1 ≤ 19; omega
        have hlo2 := HO.out.1.lt
        have hb2 : Below w1.heap.size w1 w2 := (hb.alloc hb.size _).grown hgrow2 (by have := hb.size; rw [World.size_alloc]; omega) (fun k hk => (hlo2 k hk).1)
        clear hO2 hown2 hgrow2 hnil2 hlo2
        go_wp2_with fail
        go_region_law (refine step_append_own rfl (.tmp 21) (.tmp 28) 25 rfl w1.heap.size 5 i _ 1 1 Try.underlying25 HI.out HZ0.out HZ1.out HZ2.out rfl (by decide) v2 (macM m 5 ++ [58]).length (bval (macM m 5 ++ [58])) (by simp [Act.eval]) (by exact World.ownsRow.drew (HO2.out.1.alloc _)) ⟨w2.heap.size, 0, none⟩ 2 2 (bval [((hxb q).toNat : Int), ((hxb r).toNat : Int)]) (by simp [Act.eval]) rfl (by exact cell_two' w2 _ _ _) (oneCells _) (by unfold maxLen; omega) (by omega) (by show _ ≤ (World.alloc _ _).heap.size; rw [World.size_alloc]; have := hb2.size; omega) ?_; intro v3 w3 hown3 hgrow3 hnil3)
        all_goals
          have hO3 := OwnB.app hown3 rfl HO2.out.2 (by intro z hz; simp at hz; rcases hz with rfl | rfl; exact hxb_bd _; exact hxb_bd _)
          have HO3 : Hid (OwnB w3 w1.heap.size v3 (macM m 6)) := hide (by
            have e : macM m 6 = (macM m 5 ++ [58]) ++ [((hxb q).toNat : Int), ((hxb r).toNat : Int)] := by rw [macM_succ m 5, HHI2.out, HLO2.out]; rfl
            rw [e]; exact hO3)
          have hlo := HO2.out.1.lt
          have hb3 : Below w1.heap.size w1 w3 := ((hb2.alloc hb2.size _).drew).grown hgrow3 (by show _ ≤ (World.alloc _ _).heap.size; rw [World.size_alloc]; have := hb2.size; omega) (fun k hk => (hlo k hk).1)
          clear hO3 hown3 hgrow3 hnil3 hlo
          go_wp2_with fail
          exact ⟨⟨6, by omega, by go_num, HO3, hb3⟩, by simp [intOf]⟩
    · have hk6 : k = 6 := by omega
      subst hk6
      obtain ⟨g, cap, hv, hgB, hglt⟩ := HO.out.form (by rw [macM_six m]; simp [macU])
      have hconv : (convert 25 9 u4).run Try.prog wr = .ok (.string (macL m 6)) wr := by
        rw [hv]
        have hcell : ∀ j (hj : j < (macU m).length), wr.cell? ((⟨g, 0, none⟩ : Addr).add j) = some (.int .u8 ((macU m)[j].toNat : Int)) := by
          intro j hj
          have hj2 : j < (macM m 6).length := by rw [macM_six m]; simpa using hj
          have hc := (hv ▸ HO.out.1 : wr.ownsRow w1.heap.size 5 1 (.slice (some ⟨g, 0, none⟩) (macM m 6).length cap) (macM m 6).length (bval (macM m 6))).cellAt j (by omega)
          rw [Addr.add_lit, Nat.zero_add, hc, bval_get _ _ hj2]
          have e : (macM m 6).getD j 0 = ((macU m)[j].toNat : Int) := by
            rw [List.getD_eq_getElem?_getD, macM_six m, List.getElem?_map, List.getElem?_eq_getElem hj]; rfl
          rw [e]; rfl
        have h := run_convert_bytes_back (P := Try.prog) wr 25 9 5 ⟨g, 0, none⟩ cap (macU m) Try.underlying25 Try.underlying5 Try.underlying9 hcell
        rw [macU_text m] at h
        have hl : (macM m 6).length = (macU m).length := by rw [macM_six m]; simp
        rw [hl]; exact h
      clear hv
      go_wp2_with fail
      go_ret2
      exact ⟨rfl, hb1.trans (hb.mono hb1.size)⟩

set_option maxHeartbeats 1000000 in
theorem walkShowMac (a0 : Int) (w0 : (Lit.int .i64 a0).wf = true) (w : World) :
    Calls Try.prog 7 #[.int .i64 a0] w fun e w' => e = .returned (.bool true) ∧ Below w.heap.size w w' := by
  by_cases h : macOKB a0 = true
  · go_enter Try.func7, Try.ntmps7
    go_wp2_with fail
    refine (specShow_yes _ _ h).mono ?_
    rintro e w1 ⟨rfl, hb1⟩
    go_wp2_with fail
    refine (show_yes _ _ h).mono ?_
    rintro e w2 ⟨rfl, hb2⟩
    generalize macL a0 6 = t
    go_wp2_with fail
    go_ret
    exact ⟨rfl, hb1.trans (hb2.mono hb1.size)⟩
  · rw [Bool.not_eq_true] at h
    go_enter Try.func7, Try.ntmps7
    go_wp2_with fail
    refine (specShow_no _ _ h).mono ?_
    rintro e w1 ⟨rfl, hb1⟩
    go_wp2_with fail
    refine (show_no _ _ h).mono ?_
    rintro e w2 ⟨rfl, hb2⟩
    go_wp2_with fail
    go_ret
    exact ⟨rfl, hb1.trans (hb2.mono hb1.size)⟩

open Go.ChangeMaps (open_string shut_string)
theorem own : ownKnob Try.prog.godebug = none := by kernel_rfl

set_option maxRecDepth 100000 in
theorem fnExactShowMac_lifted (os : Os) (started : os.Started) (H : Type) (enc : TypeId × Value → H) :
    ReturnsInHanded {} Try.checked os 7 .any (Rows.fnExactShowMacSpec.pre6 enc Try.prog Try.f7 Rows.fnExactShowMacRow.domain false) (Rows.fnExactShowMacSpec.post enc Try.prog Try.f7 false true false false) := by
  refine returnsInHanded_of_change (C := Try.checked) own started (by kernel_rfl) Try.func7
    (ChangeSpec.witness6 (enc := enc) (C := Try.checked) false ⟨#[], #[.int .i64 0], []⟩ 8 (by kernel_rfl) (by kernel_rfl) (by kernel_rfl) (by kernel_rfl)) ?_
  intro W base args ds gs before hval0 hW hcnd _
  have hval : ∀ (j : Nat) t v, Try.f7.params[j]? = some t → args[j]? = some v → Value.okWide Try.prog W .any base t v := hval0
  have hW' := hW
  obtain ⟨p, q, hA0, hV, rfl, hfz, hnd⟩ := hW
  have hA : DataW.TrodAll enc Try.prog W 0 (fun _ => true) true Try.f7.params.toList args.toList ds p := hA0
  rw [Try.params7] at hA hval
  obtain ⟨v0, vs0, d0, ds0, p0, q0, hargs, rfl, rfl, h0, r0⟩ := trodAll_cons hA
  obtain ⟨rfl, rfl, rfl⟩ := trodAll_nil r0
  obtain rfl : args = #[v0] := by cases args; simp_all
  obtain ⟨rfl, rfl⟩ := trodVars_none hV
  obtain ⟨a0, rfl, rfl, rfl, w0⟩ := open_int Try.underlying2 (hval 0 2 v0 rfl rfl) h0
  clear hA0 hval0
  refine (walkShowMac a0 w0 W).mono fun e W' ⟨he, bel⟩ => ?_
  subst he
  exact ⟨_, rfl, _, _, _, [], _, [], hW', trodAll_mk1 (shut_bool Try.underlying4 _), (trodAll_cons_mk (shut_int Try.underlying2 w0) trodAll_mk0), rfl, bel.frame _, fun h => by cases h⟩

theorem fnExactShowMac_over : Rows.fnExactShowMacRow.holds Try.pinned (OpenSpec.ofChange Rows.fnExactShowMacSpec) :=
  OpenClaim.holds_of_wide 7 Try.f7 rfl rfl rfl rfl rfl rfl rfl ⟨rfl, rfl, rfl, rfl, rfl⟩ rfl rfl rfl rfl rfl (by kernel_rfl) Try.func7 (by kernel_rfl)
    (of_decide_eq_true (by kernel_rfl)) (by unfold Func.isWrapper; first | (rw [if_pos (by decide +kernel)]; kernel_rfl) | (rw [if_neg (by decide +kernel)]; exact ⟨rfl, rfl⟩))
    (fun os started H enc _ => fnExactShowMac_lifted os started H enc)

theorem fnExactShowMac_holds : Rows.FnExactShowMacSaid :=
  fnExactShowMac_over
end Go.Proofs.Ytmgjagajcmeikab
