/-
Contracts of functions of this seat.
-/
import Derived.Test.YtmgjagajcmeikalDoorRows
import Derived.WalkKit
import Derived.ProofKit
import Derived.OpenShut
import Derived.Test.YtmgjagajcmeikalDoorMac
import Derived.Laws.Strings2
import Derived.Laws.IdiomStrings
namespace Go.Proofs.YtmgjagajcmeikalDoor
open Go.ChangeShapes Go.WideShapes Go.ChangeAt Go.RowKit
set_option linter.unusedVariables false
/-- The digits of base 16. -/
def hexS : ByteArray := ⟨#[48, 49, 50, 51, 52, 53, 54, 55, 56, 57, 97, 98, 99, 100, 101, 102]⟩
def hx (q : Nat) : ByteArray := hexS.extract q (q + 1)
def hxb (q : Nat) : UInt8 := hexS.data.getD q 0
theorem hx_one : ∀ q : Fin 16, hx q.val = ⟨#[hxb q.val]⟩ := by decide
theorem hx_eq (q : Nat) (h : q < 16) : hx q = ⟨#[hxb q]⟩ := hx_one ⟨q, h⟩
theorem hx_size (q : Nat) (h : q < 16) : (hx q).size = 1 := by rw [hx_eq q h]; rfl
theorem slice_hex (q : Nat) (h : q < 16) (w : World) : (Instr.slice 9 (.string ⟨#[48, 49, 50, 51, 52, 53, 54, 55, 56, 57, 97, 98, 99, 100, 101, 102]⟩) (some (.int .i64 (q : Int))) (some (.int .i64 ((q : Int) + 1))) none).run Tryd.prog w = .ok (.string (hx q)) w := by
  have e := run_slice_string (P := Tryd.prog) w 9 hexS .i64 .i64 (q : Int) ((q : Int) + 1) Tryd.underlying9 (by omega) (by omega) (by show (q : Int) + 1 ≤ 16; omega)
  rw [show ((q : Int) + 1).toNat = q + 1 by omega, Int.toNat_natCast] at e
  exact e
def hiN (m : Int) (k : Nat) : Nat := (byteOf m 6 k / 16).toNat
def loN (m : Int) (k : Nat) : Nat := (byteOf m 6 k % 16).toNat
/-- The text of the first k bytes, each but the last with its sign behind it. -/
def macL (m : Int) : Nat → ByteArray
  | 0 => ⟨#[]⟩
  | k + 1 => if k < 5 then macL m k ++ hx (hiN m k) ++ hx (loN m k) ++ ⟨#[58]⟩ else macL m k ++ hx (hiN m k) ++ hx (loN m k)
def macOKB (m : Int) : Bool := decide (0 ≤ m ∧ m ≤ 281474976710655)
theorem macOKB_iff {m : Int} : macOKB m = true ↔ 0 ≤ m ∧ m ≤ 281474976710655 := by unfold macOKB; simp

theorem own6 (w : World) (z : Value) (e : Nat) : ((w.alloc (.cells #[z, z, z, z, z, z] e)).alloc (.cells #[z, z, z, z, z, z] e)).ownsRow (w.heap.size + 1) e 1 (.slice (some ⟨w.heap.size + 1, 0, none⟩) 6 6) 6 [z, z, z, z, z, z] := by
  have h := World.ownsRow_lit (base := w.heap.size + 1) (e := e) (size := 1) (w.alloc (.cells #[z, z, z, z, z, z] e)) #[z, z, z, z, z, z] 6 (by simp) (by decide) rfl
  simpa using h
theorem heap2m (w : World) (a b : Obj) : ((w.alloc a).alloc b).heap[w.heap.size]? = some a := by
  rw [Below.heap_alloc (w.alloc a) b w.heap.size (by rw [World.size_alloc]; omega)]; exact heap_alloc_new w a
theorem below_alloc2 (w : World) (a b : Obj) : Below w.heap.size w ((w.alloc a).alloc b) := ((Below.refl _ _).alloc (Nat.le_refl _) _).alloc (by simp) _
set_option maxHeartbeats 1000000 in
theorem splitMac_walk (v : Int) (w : World) :
    Calls Tryd.prog 21 #[.int .i64 v] w fun e w' => e = .returned (.agg #[.int .u8 (byteOf v 6 0), .int .u8 (byteOf v 6 1), .int .u8 (byteOf v 6 2), .int .u8 (byteOf v 6 3), .int .u8 (byteOf v 6 4), .int .u8 (byteOf v 6 5)]) ∧ Below w.heap.size w w' := by
  go_enter Tryd.func21, Tryd.ntmps21
  go_wp2_with fail
  refine (putNumber_walk (w.heap.size + 1) 6 v 52 _ _ (by omega) (own6 w _ _)).mono ?_
  rintro e w1 ⟨rfl, hg, xs, hown, hx⟩
  have c0 := (hown.cellAt 0 (by omega)).trans (hx 0 (by omega))
  have c1 := (hown.cellAt 1 (by omega)).trans (hx 1 (by omega))
  have c2 := (hown.cellAt 2 (by omega)).trans (hx 2 (by omega))
  have c3 := (hown.cellAt 3 (by omega)).trans (hx 3 (by omega))
  have c4 := (hown.cellAt 4 (by omega)).trans (hx 4 (by omega))
  have c5 := (hown.cellAt 5 (by omega)).trans (hx 5 (by omega))
  have hblk : w1.heap[w.heap.size]? = some (.cells #[.int .u8 0, .int .u8 0, .int .u8 0, .int .u8 0, .int .u8 0, .int .u8 0] 52) := by
    rw [hg.block w.heap.size (by rw [World.size_alloc, World.size_alloc]; omega) (by simp)]; exact heap2m w _ _
  have hbel : Below w.heap.size w w1 := (below_alloc2 w _ _).grown hg (by rw [World.size_alloc, World.size_alloc]; omega) (fun k hk => by cases hk; omega)
  have hz : w.heap.size + 1 < w1.heap.size := by have := hg.size; simp at this; omega
  have d : ∀ o, o < 6 → w1.cell? ⟨w.heap.size, o, none⟩ = some (.int .u8 0) := by
    intro o ho
    rw [cell_of_row w1 w.heap.size o _ _ _ hblk]
    match o, ho with
    | 0, _ => rfl
    | 1, _ => rfl
    | 2, _ => rfl
    | 3, _ => rfl
    | 4, _ => rfl
    | 5, _ => rfl
  have f : ∀ o, w1.frozen? ⟨w.heap.size, o, none⟩ = false := fun o => frozen_of_row w1 w.heap.size o _ _ hblk
  have d0 := d 0 (by omega)
  have d1 := d 1 (by omega)
  have d2 := d 2 (by omega)
  have d3 := d 3 (by omega)
  have d4 := d 4 (by omega)
  have d5 := d 5 (by omega)
  have HO := hide hown
  clear hown hx hg hblk d
  go_wp2
  exact bodyPost_ret (v := .agg #[.int .u8 (byteOf v 6 0), .int .u8 (byteOf v 6 1), .int .u8 (byteOf v 6 2), .int .u8 (byteOf v 6 3), .int .u8 (byteOf v 6 4), .int .u8 (byteOf v 6 5)]) (by simp [results, Tryd.results21, go_sem, d0, d1, d2, d3, d4, d5]) rfl ⟨rfl, ((((((hbel.setCell (Nat.le_refl _) _).setCell (Nat.le_refl _) _).setCell (Nat.le_refl _) _).setCell (Nat.le_refl _) _).setCell (Nat.le_refl _) _).setCell (Nat.le_refl _) _)⟩

theorem idx0 (a b c d e f : Int) (w : World) : (Instr.index 52 (.agg #[.int .u8 a, .int .u8 b, .int .u8 c, .int .u8 d, .int .u8 e, .int .u8 f]) (.int .i64 0)).run Tryd.prog w = .ok (.int .u8 a) w := by
  have u3 := Tryd.underlying5
  have a3 := Tryd.isAgg5
  have z3 := Tryd.sizeOf5
  simp only [Instr.index, Sem.run_bind, run_underlying Tryd.underlying52, Result.andThen_ok]
  go_simp
theorem idx1 (a b c d e f : Int) (w : World) : (Instr.index 52 (.agg #[.int .u8 a, .int .u8 b, .int .u8 c, .int .u8 d, .int .u8 e, .int .u8 f]) (.int .i64 1)).run Tryd.prog w = .ok (.int .u8 b) w := by
  have u3 := Tryd.underlying5
  have a3 := Tryd.isAgg5
  have z3 := Tryd.sizeOf5
  simp only [Instr.index, Sem.run_bind, run_underlying Tryd.underlying52, Result.andThen_ok]
  go_simp
theorem idx2 (a b c d e f : Int) (w : World) : (Instr.index 52 (.agg #[.int .u8 a, .int .u8 b, .int .u8 c, .int .u8 d, .int .u8 e, .int .u8 f]) (.int .i64 2)).run Tryd.prog w = .ok (.int .u8 c) w := by
  have u3 := Tryd.underlying5
  have a3 := Tryd.isAgg5
  have z3 := Tryd.sizeOf5
  simp only [Instr.index, Sem.run_bind, run_underlying Tryd.underlying52, Result.andThen_ok]
  go_simp
theorem idx3 (a b c d e f : Int) (w : World) : (Instr.index 52 (.agg #[.int .u8 a, .int .u8 b, .int .u8 c, .int .u8 d, .int .u8 e, .int .u8 f]) (.int .i64 3)).run Tryd.prog w = .ok (.int .u8 d) w := by
  have u3 := Tryd.underlying5
  have a3 := Tryd.isAgg5
  have z3 := Tryd.sizeOf5
  simp only [Instr.index, Sem.run_bind, run_underlying Tryd.underlying52, Result.andThen_ok]
  go_simp
theorem idx4 (a b c d e f : Int) (w : World) : (Instr.index 52 (.agg #[.int .u8 a, .int .u8 b, .int .u8 c, .int .u8 d, .int .u8 e, .int .u8 f]) (.int .i64 4)).run Tryd.prog w = .ok (.int .u8 e) w := by
  have u3 := Tryd.underlying5
  have a3 := Tryd.isAgg5
  have z3 := Tryd.sizeOf5
  simp only [Instr.index, Sem.run_bind, run_underlying Tryd.underlying52, Result.andThen_ok]
  go_simp
theorem idx5 (a b c d e f : Int) (w : World) : (Instr.index 52 (.agg #[.int .u8 a, .int .u8 b, .int .u8 c, .int .u8 d, .int .u8 e, .int .u8 f]) (.int .i64 5)).run Tryd.prog w = .ok (.int .u8 f) w := by
  have u3 := Tryd.underlying5
  have a3 := Tryd.isAgg5
  have z3 := Tryd.sizeOf5
  simp only [Instr.index, Sem.run_bind, run_underlying Tryd.underlying52, Result.andThen_ok]
  go_simp
theorem hexS_get (q : Nat) (h : q < 16) : hexS[q]'(show q < 16 from h) = hxb q := by
  have : ∀ q : Fin 16, hexS[q.val]'(show q.val < 16 from q.isLt) = hxb q.val := by decide
  exact this ⟨q, h⟩
theorem idx_hex (q : Nat) (h : q < 16) (w : World) : (Instr.index 9 (.string ⟨#[48, 49, 50, 51, 52, 53, 54, 55, 56, 57, 97, 98, 99, 100, 101, 102]⟩) (.int .u8 (q : Int))).run Tryd.prog w = .ok (.int .u8 ((hxb q).toNat : Int)) w := by
  have e := run_index_string (P := Tryd.prog) w 9 hexS .u8 (q : Int) Tryd.underlying9
  have hq : 0 ≤ (q : Int) ∧ (q : Int) < (hexS.size : Int) := ⟨by omega, by show (q : Int) < 16; omega⟩
  rw [dif_pos hq] at e
  rw [← hexS_get q h]
  exact e

theorem isMac_walk (a : Int) (w : World) :
    Calls Tryd.prog 20 #[.int .i64 a] w fun e w' => e = .returned (.bool (macOKB a)) ∧ w' = w := by
  by_cases h1 : 0 ≤ a
  · by_cases h2 : a ≤ 281474976710655
    · have e := hide (macOKB_iff.2 ⟨h1, h2⟩)
      go_enter Tryd.func20, Tryd.ntmps20
      go_wp2
      go_ret
      exact ⟨ret_bool e.out.symm, rfl⟩
    · have e : Hid (macOKB a = false) := hide (by unfold macOKB; simp; omega)
      go_enter Tryd.func20, Tryd.ntmps20
      go_wp2
      go_ret
      exact ⟨ret_bool e.out.symm, rfl⟩
  · have e : Hid (macOKB a = false) := hide (by unfold macOKB; simp; omega)
    go_enter Tryd.func20, Tryd.ntmps20
    go_wp2
    go_ret
    exact ⟨ret_bool e.out.symm, rfl⟩
theorem show_no (m : Int) (w : World) (h : macOKB m = false) :
    Calls Tryd.prog 8 #[.int .i64 m] w fun e w' => e = .returned (.tuple #[.string ⟨#[]⟩, .int .i64 1]) ∧ Below w.heap.size w w' := by
  go_enter Tryd.func8, Tryd.ntmps8
  go_wp2_with (go_at_call 20; refine (isMac_walk _ _).mono ?_; rintro e w' ⟨rfl, rfl⟩)
  go_ret2
  exact ⟨rfl, Below.refl _ _⟩
/-- The text's bytes as the program lays them: a sign ahead of each byte but the first. -/
def macM (m : Int) : Nat → List Int
  | 0 => []
  | k + 1 => (if 0 < k then macM m k ++ [58] else macM m k) ++ [((hxb (hiN m k)).toNat : Int), ((hxb (loN m k)).toNat : Int)]
attribute [local go_sem] idx0 idx1 idx2 idx3 idx4 idx5 and_15_u8
theorem cell_two' (w : World) (x y : Int) (t : Nat) : ∀ j u, (bval [x, y])[j]? = some u → (w.alloc (.cells #[.int .u8 x, .int .u8 y] t)).cell? ((⟨w.heap.size, 0, none⟩ : Addr).add j) = some u := by
  intro j u hu
  match j with
  | 0 =>
    simp [bval] at hu
    subst hu
    rw [Addr.add_lit]
    exact cell_of_row _ w.heap.size 0 _ t (0, 0) (heap_alloc_new w _)
  | 1 =>
    simp [bval] at hu
    subst hu
    rw [Addr.add_lit]
    exact cell_of_row _ w.heap.size 1 _ t (0, 0) (heap_alloc_new w _)
  | k + 2 => simp [bval] at hu
theorem hxb_bd (q : Nat) : 0 ≤ ((hxb q).toNat : Int) ∧ ((hxb q).toNat : Int) ≤ 255 := by have := (hxb q).toNat_lt; omega
/-- The text's bytes, written out. -/
def macU (m : Int) : List UInt8 := [hxb (hiN m 0), hxb (loN m 0), 58, hxb (hiN m 1), hxb (loN m 1), 58, hxb (hiN m 2), hxb (loN m 2), 58, hxb (hiN m 3), hxb (loN m 3), 58, hxb (hiN m 4), hxb (loN m 4), 58, hxb (hiN m 5), hxb (loN m 5)]
theorem macM_six (m : Int) : macM m 6 = (macU m).map (fun b => (b.toNat : Int)) := by simp [macM, macU]
theorem hiN_lt (m : Int) (k : Nat) : hiN m k < 16 := by have := byteOf_bd m 6 k; unfold hiN; omega
theorem loN_lt (m : Int) (k : Nat) : loN m k < 16 := by unfold loN; omega
theorem push_bytes (l : List UInt8) (x : UInt8) : (⟨l.toArray⟩ : ByteArray) ++ (⟨#[x]⟩ : ByteArray) = ⟨(l ++ [x]).toArray⟩ := by
  apply ByteArray.ext
  simp [ByteArray.data_append]
def macV (m : Int) : Nat → List UInt8
  | 0 => []
  | k + 1 => if k < 5 then ((macV m k ++ [hxb (hiN m k)]) ++ [hxb (loN m k)]) ++ [58] else (macV m k ++ [hxb (hiN m k)]) ++ [hxb (loN m k)]
theorem macL_eq (m : Int) : ∀ k, macL m k = ⟨(macV m k).toArray⟩
  | 0 => rfl
  | k + 1 => by
    rw [macL, macV, macL_eq m k, hx_eq _ (hiN_lt m k), hx_eq _ (loN_lt m k), push_bytes, push_bytes, push_bytes]
    split <;> rfl
theorem macU_text (m : Int) : (⟨(macU m).toArray⟩ : ByteArray) = macL m 6 := by
  rw [macL_eq m 6]; rfl
theorem macM_succ (m : Int) (k : Nat) : macM m (k + 1) = (if 0 < k then macM m k ++ [58] else macM m k) ++ [((hxb (hiN m k)).toNat : Int), ((hxb (loN m k)).toNat : Int)] := rfl
theorem macM_len (m : Int) : ∀ k, k ≤ 6 → (macM m k).length ≤ 18 := by
  have h : ∀ k, (macM m k).length ≤ 3 * k := by
    intro k
    induction k with
    | zero => simp [macM]
    | succ k ih =>
      rw [macM]
      split <;> simp <;> omega
  intro k hk
  have := h k
  omega
set_option maxHeartbeats 2000000 in
theorem show_yes (m : Int) (w : World) (h : macOKB m = true) :
    Calls Tryd.prog 8 #[.int .i64 m] w fun e w' => e = .returned (.tuple #[.string (macL m 6), .int .i64 0]) ∧ Below w.heap.size w w' := by
  obtain ⟨h0, h1⟩ := macOKB_iff.1 h
  obtain ⟨i, hi, hz0, hz1, hz2⟩ := info_parts Tryd.infoB
  have HI := hide hi
  have HZ0 := hide hz0
  have HZ1 := hide hz1
  have HZ2 := hide hz2
  clear hi hz0 hz1 hz2
  go_enter Tryd.func8, Tryd.ntmps8
  go_wp2_with fail
  refine (isMac_walk _ _).mono ?_
  rw [h]
  rintro e w' ⟨rfl, hw'⟩
  rw [hw']
  clear hw' h
  go_wp2_with fail
  refine (splitMac_walk m _).mono ?_
  rintro e w1 ⟨rfl, hb1⟩
  go_wp2_with fail
  go_loopw [4, 12] (fun o t w2 => ∃ (k : Nat), k ≤ 6 ∧ t = .int .i64 k ∧ Hid (OwnB w2 w1.heap.size o (macM m k)) ∧ Below w1.heap.size w1 w2) (fun _ t _ => 6 - (intOf t).toNat)
  case atStart => exact ⟨0, by omega, rfl, hide ⟨World.ownsRow_nil _ _ _ _, by simp [macM]⟩, Below.refl _ _⟩
  case round =>
    obtain ⟨k, hk, rfl, HO, hb⟩ := hrel
    by_cases hlt : k < 6
    · have bb := byteOf_bd m 6 k
      have HHI : Hid (hiN m k = (byteOf m 6 k / 16).toNat) := rfl
      have HLO : Hid (loN m k = (byteOf m 6 k % 16).toNat) := rfl
      obtain ⟨q, hq⟩ := Int.eq_ofNat_of_zero_le (show 0 ≤ byteOf m 6 k / 16 by omega)
      obtain ⟨r, hr⟩ := Int.eq_ofNat_of_zero_le (show 0 ≤ byteOf m 6 k % 16 by omega)
      have hq16 : q < 16 := by omega
      have hr16 : r < 16 := by omega
      have i1 := idx_hex q hq16
      have i2 := idx_hex r hr16
      have HHI2 : Hid (hiN m k = q) := hide (by rw [HHI.out, hq, Int.toNat_natCast])
      have HLO2 : Hid (loN m k = r) := hide (by rw [HLO.out, hr, Int.toNat_natCast])
      clear HHI HLO
      rcases (show k = 0 ∨ k = 1 ∨ k = 2 ∨ k = 3 ∨ k = 4 ∨ k = 5 by omega) with rfl | rfl | rfl | rfl | rfl | rfl
      · have hl0 : (macM m 0).length = 0 := rfl
        go_wp2_with fail
        go_region_law (refine step_append_own rfl (.tmp 21) (.tmp 28) 22 rfl w1.heap.size 5 i _ 1 1 Tryd.underlying22 HI.out HZ0.out HZ1.out HZ2.out rfl (by decide) u4 (macM m 0).length (bval (macM m 0)) (by simp [Act.eval]) (by exact World.ownsRow.drew (HO.out.1.alloc _)) ⟨wr.heap.size, 0, none⟩ 2 2 (bval [((hxb q).toNat : Int), ((hxb r).toNat : Int)]) (by simp [Act.eval]) rfl (by exact cell_two' wr _ _ _) (oneCells _) (by unfold maxLen; omega) (by omega) (by show _ ≤ (World.alloc _ _).heap.size; rw [World.size_alloc]; have := hb.size; omega) ?_; intro v3 w3 hown3 hgrow3 hnil3)
        all_goals
          have hO3 := OwnB.app hown3 rfl HO.out.2 (by intro z hz; simp at hz; rcases hz with rfl | rfl; exact hxb_bd _; exact hxb_bd _)
          have HO3 : Hid (OwnB w3 w1.heap.size v3 (macM m 1)) := hide (by
            have e : macM m 1 = (macM m 0) ++ [((hxb q).toNat : Int), ((hxb r).toNat : Int)] := by rw [macM_succ m 0, HHI2.out, HLO2.out]; rfl
            rw [e]; exact hO3)
          have hlo := HO.out.1.lt
          have hb3 : Below w1.heap.size w1 w3 := ((hb.alloc hb.size _).drew).grown hgrow3 (by show _ ≤ (World.alloc _ _).heap.size; rw [World.size_alloc]; have := hb.size; omega) (fun k hk => (hlo k hk).1)
          clear hO3 hown3 hgrow3 hnil3 hlo
          go_wp2_with fail
          exact ⟨⟨1, by omega, by go_num, HO3, hb3⟩, by simp [intOf]⟩
      · have hl0 : (macM m 1).length ≤ 18 := macM_len m 1 (by omega)
        go_wp2_with (first | (at_builtin; refine wpList_append_own _ rfl _ _ 22 rfl w1.heap.size 5 i _ 1 1 Tryd.underlying22 HI.out HZ0.out HZ1.out HZ2.out rfl (by decide) u4 (macM m 1).length (bval (macM m 1)) rfl (HO.out.1.alloc _) ⟨wr.heap.size, 0, none⟩ 1 1 (bval [58]) rfl rfl (cell_one _ _ _) (oneCells _) (by unfold maxLen; omega) (by omega) (by have := hb.size; rw [World.size_alloc]; omega) ?_))
        intro v2 w2 hown2 hgrow2 hnil2
        have hO2 := OwnB.app hown2 rfl HO.out.2 (by intro z hz; simp at hz; subst hz; decide)
        have HO2 := hide hO2
        have hl2 : (macM m 1 ++ [58]).length ≤ 19 := by rw [List.length_append]; show _ + 1 ≤ 19; omega
        have hlo2 := HO.out.1.lt
        have hb2 : Below w1.heap.size w1 w2 := (hb.alloc hb.size _).grown hgrow2 (by have := hb.size; rw [World.size_alloc]; omega) (fun k hk => (hlo2 k hk).1)
        clear hO2 hown2 hgrow2 hnil2 hlo2
        go_wp2_with fail
        go_region_law (refine step_append_own rfl (.tmp 21) (.tmp 28) 22 rfl w1.heap.size 5 i _ 1 1 Tryd.underlying22 HI.out HZ0.out HZ1.out HZ2.out rfl (by decide) v2 (macM m 1 ++ [58]).length (bval (macM m 1 ++ [58])) (by simp [Act.eval]) (by exact World.ownsRow.drew (HO2.out.1.alloc _)) ⟨w2.heap.size, 0, none⟩ 2 2 (bval [((hxb q).toNat : Int), ((hxb r).toNat : Int)]) (by simp [Act.eval]) rfl (by exact cell_two' w2 _ _ _) (oneCells _) (by unfold maxLen; omega) (by omega) (by show _ ≤ (World.alloc _ _).heap.size; rw [World.size_alloc]; have := hb2.size; omega) ?_; intro v3 w3 hown3 hgrow3 hnil3)
        all_goals
          have hO3 := OwnB.app hown3 rfl HO2.out.2 (by intro z hz; simp at hz; rcases hz with rfl | rfl; exact hxb_bd _; exact hxb_bd _)
          have HO3 : Hid (OwnB w3 w1.heap.size v3 (macM m 2)) := hide (by
            have e : macM m 2 = (macM m 1 ++ [58]) ++ [((hxb q).toNat : Int), ((hxb r).toNat : Int)] := by rw [macM_succ m 1, HHI2.out, HLO2.out]; rfl
            rw [e]; exact hO3)
          have hlo := HO2.out.1.lt
          have hb3 : Below w1.heap.size w1 w3 := ((hb2.alloc hb2.size _).drew).grown hgrow3 (by show _ ≤ (World.alloc _ _).heap.size; rw [World.size_alloc]; have := hb2.size; omega) (fun k hk => (hlo k hk).1)
          clear hO3 hown3 hgrow3 hnil3 hlo
          go_wp2_with fail
          exact ⟨⟨2, by omega, by go_num, HO3, hb3⟩, by simp [intOf]⟩
      · have hl0 : (macM m 2).length ≤ 18 := macM_len m 2 (by omega)
        go_wp2_with (first | (at_builtin; refine wpList_append_own _ rfl _ _ 22 rfl w1.heap.size 5 i _ 1 1 Tryd.underlying22 HI.out HZ0.out HZ1.out HZ2.out rfl (by decide) u4 (macM m 2).length (bval (macM m 2)) rfl (HO.out.1.alloc _) ⟨wr.heap.size, 0, none⟩ 1 1 (bval [58]) rfl rfl (cell_one _ _ _) (oneCells _) (by unfold maxLen; omega) (by omega) (by have := hb.size; rw [World.size_alloc]; omega) ?_))
        intro v2 w2 hown2 hgrow2 hnil2
        have hO2 := OwnB.app hown2 rfl HO.out.2 (by intro z hz; simp at hz; subst hz; decide)
        have HO2 := hide hO2
        have hl2 : (macM m 2 ++ [58]).length ≤ 19 := by rw [List.length_append]; show _ + 1 ≤ 19; omega
        have hlo2 := HO.out.1.lt
        have hb2 : Below w1.heap.size w1 w2 := (hb.alloc hb.size _).grown hgrow2 (by have := hb.size; rw [World.size_alloc]; omega) (fun k hk => (hlo2 k hk).1)
        clear hO2 hown2 hgrow2 hnil2 hlo2
        go_wp2_with fail
        go_region_law (refine step_append_own rfl (.tmp 21) (.tmp 28) 22 rfl w1.heap.size 5 i _ 1 1 Tryd.underlying22 HI.out HZ0.out HZ1.out HZ2.out rfl (by decide) v2 (macM m 2 ++ [58]).length (bval (macM m 2 ++ [58])) (by simp [Act.eval]) (by exact World.ownsRow.drew (HO2.out.1.alloc _)) ⟨w2.heap.size, 0, none⟩ 2 2 (bval [((hxb q).toNat : Int), ((hxb r).toNat : Int)]) (by simp [Act.eval]) rfl (by exact cell_two' w2 _ _ _) (oneCells _) (by unfold maxLen; omega) (by omega) (by show _ ≤ (World.alloc _ _).heap.size; rw [World.size_alloc]; have := hb2.size; omega) ?_; intro v3 w3 hown3 hgrow3 hnil3)
        all_goals
          have hO3 := OwnB.app hown3 rfl HO2.out.2 (by intro z hz; simp at hz; rcases hz with rfl | rfl; exact hxb_bd _; exact hxb_bd _)
          have HO3 : Hid (OwnB w3 w1.heap.size v3 (macM m 3)) := hide (by
            have e : macM m 3 = (macM m 2 ++ [58]) ++ [((hxb q).toNat : Int), ((hxb r).toNat : Int)] := by rw [macM_succ m 2, HHI2.out, HLO2.out]; rfl
            rw [e]; exact hO3)
          have hlo := HO2.out.1.lt
          have hb3 : Below w1.heap.size w1 w3 := ((hb2.alloc hb2.size _).drew).grown hgrow3 (by show _ ≤ (World.alloc _ _).heap.size; rw [World.size_alloc]; have := hb2.size; omega) (fun k hk => (hlo k hk).1)
          clear hO3 hown3 hgrow3 hnil3 hlo
          go_wp2_with fail
          exact ⟨⟨3, by omega, by go_num, HO3, hb3⟩, by simp [intOf]⟩
      · have hl0 : (macM m 3).length ≤ 18 := macM_len m 3 (by omega)
        go_wp2_with (first | (at_builtin; refine wpList_append_own _ rfl _ _ 22 rfl w1.heap.size 5 i _ 1 1 Tryd.underlying22 HI.out HZ0.out HZ1.out HZ2.out rfl (by decide) u4 (macM m 3).length (bval (macM m 3)) rfl (HO.out.1.alloc _) ⟨wr.heap.size, 0, none⟩ 1 1 (bval [58]) rfl rfl (cell_one _ _ _) (oneCells _) (by unfold maxLen; omega) (by omega) (by have := hb.size; rw [World.size_alloc]; omega) ?_))
        intro v2 w2 hown2 hgrow2 hnil2
        have hO2 := OwnB.app hown2 rfl HO.out.2 (by intro z hz; simp at hz; subst hz; decide)
        have HO2 := hide hO2
        have hl2 : (macM m 3 ++ [58]).length ≤ 19 := by rw [List.length_append]; show _ + 1 ≤ 19; omega
        have hlo2 := HO.out.1.lt
        have hb2 : Below w1.heap.size w1 w2 := (hb.alloc hb.size _).grown hgrow2 (by have := hb.size; rw [World.size_alloc]; omega) (fun k hk => (hlo2 k hk).1)
        clear hO2 hown2 hgrow2 hnil2 hlo2
        go_wp2_with fail
        go_region_law (refine step_append_own rfl (.tmp 21) (.tmp 28) 22 rfl w1.heap.size 5 i _ 1 1 Tryd.underlying22 HI.out HZ0.out HZ1.out HZ2.out rfl (by decide) v2 (macM m 3 ++ [58]).length (bval (macM m 3 ++ [58])) (by simp [Act.eval]) (by exact World.ownsRow.drew (HO2.out.1.alloc _)) ⟨w2.heap.size, 0, none⟩ 2 2 (bval [((hxb q).toNat : Int), ((hxb r).toNat : Int)]) (by simp [Act.eval]) rfl (by exact cell_two' w2 _ _ _) (oneCells _) (by unfold maxLen; omega) (by omega) (by show _ ≤ (World.alloc _ _).heap.size; rw [World.size_alloc]; have := hb2.size; omega) ?_; intro v3 w3 hown3 hgrow3 hnil3)
        all_goals
          have hO3 := OwnB.app hown3 rfl HO2.out.2 (by intro z hz; simp at hz; rcases hz with rfl | rfl; exact hxb_bd _; exact hxb_bd _)
          have HO3 : Hid (OwnB w3 w1.heap.size v3 (macM m 4)) := hide (by
            have e : macM m 4 = (macM m 3 ++ [58]) ++ [((hxb q).toNat : Int), ((hxb r).toNat : Int)] := by rw [macM_succ m 3, HHI2.out, HLO2.out]; rfl
            rw [e]; exact hO3)
          have hlo := HO2.out.1.lt
          have hb3 : Below w1.heap.size w1 w3 := ((hb2.alloc hb2.size _).drew).grown hgrow3 (by show _ ≤ (World.alloc _ _).heap.size; rw [World.size_alloc]; have := hb2.size; omega) (fun k hk => (hlo k hk).1)
          clear hO3 hown3 hgrow3 hnil3 hlo
          go_wp2_with fail
          exact ⟨⟨4, by omega, by go_num, HO3, hb3⟩, by simp [intOf]⟩
      · have hl0 : (macM m 4).length ≤ 18 := macM_len m 4 (by omega)
        go_wp2_with (first | (at_builtin; refine wpList_append_own _ rfl _ _ 22 rfl w1.heap.size 5 i _ 1 1 Tryd.underlying22 HI.out HZ0.out HZ1.out HZ2.out rfl (by decide) u4 (macM m 4).length (bval (macM m 4)) rfl (HO.out.1.alloc _) ⟨wr.heap.size, 0, none⟩ 1 1 (bval [58]) rfl rfl (cell_one _ _ _) (oneCells _) (by unfold maxLen; omega) (by omega) (by have := hb.size; rw [World.size_alloc]; omega) ?_))
        intro v2 w2 hown2 hgrow2 hnil2
        have hO2 := OwnB.app hown2 rfl HO.out.2 (by intro z hz; simp at hz; subst hz; decide)
        have HO2 := hide hO2
        have hl2 : (macM m 4 ++ [58]).length ≤ 19 := by rw [List.length_append]; show _ + 1 ≤ 19; omega
        have hlo2 := HO.out.1.lt
        have hb2 : Below w1.heap.size w1 w2 := (hb.alloc hb.size _).grown hgrow2 (by have := hb.size; rw [World.size_alloc]; omega) (fun k hk => (hlo2 k hk).1)
        clear hO2 hown2 hgrow2 hnil2 hlo2
        go_wp2_with fail
        go_region_law (refine step_append_own rfl (.tmp 21) (.tmp 28) 22 rfl w1.heap.size 5 i _ 1 1 Tryd.underlying22 HI.out HZ0.out HZ1.out HZ2.out rfl (by decide) v2 (macM m 4 ++ [58]).length (bval (macM m 4 ++ [58])) (by simp [Act.eval]) (by exact World.ownsRow.drew (HO2.out.1.alloc _)) ⟨w2.heap.size, 0, none⟩ 2 2 (bval [((hxb q).toNat : Int), ((hxb r).toNat : Int)]) (by simp [Act.eval]) rfl (by exact cell_two' w2 _ _ _) (oneCells _) (by unfold maxLen; omega) (by omega) (by show _ ≤ (World.alloc _ _).heap.size; rw [World.size_alloc]; have := hb2.size; omega) ?_; intro v3 w3 hown3 hgrow3 hnil3)
        all_goals
          have hO3 := OwnB.app hown3 rfl HO2.out.2 (by intro z hz; simp at hz; rcases hz with rfl | rfl; exact hxb_bd _; exact hxb_bd _)
          have HO3 : Hid (OwnB w3 w1.heap.size v3 (macM m 5)) := hide (by
            have e : macM m 5 = (macM m 4 ++ [58]) ++ [((hxb q).toNat : Int), ((hxb r).toNat : Int)] := by rw [macM_succ m 4, HHI2.out, HLO2.out]; rfl
            rw [e]; exact hO3)
          have hlo := HO2.out.1.lt
          have hb3 : Below w1.heap.size w1 w3 := ((hb2.alloc hb2.size _).drew).grown hgrow3 (by show _ ≤ (World.alloc _ _).heap.size; rw [World.size_alloc]; have := hb2.size; omega) (fun k hk => (hlo k hk).1)
          clear hO3 hown3 hgrow3 hnil3 hlo
          go_wp2_with fail
          exact ⟨⟨5, by omega, by go_num, HO3, hb3⟩, by simp [intOf]⟩
      · have hl0 : (macM m 5).length ≤ 18 := macM_len m 5 (by omega)
        go_wp2_with (first | (at_builtin; refine wpList_append_own _ rfl _ _ 22 rfl w1.heap.size 5 i _ 1 1 Tryd.underlying22 HI.out HZ0.out HZ1.out HZ2.out rfl (by decide) u4 (macM m 5).length (bval (macM m 5)) rfl (HO.out.1.alloc _) ⟨wr.heap.size, 0, none⟩ 1 1 (bval [58]) rfl rfl (cell_one _ _ _) (oneCells _) (by unfold maxLen; omega) (by omega) (by have := hb.size; rw [World.size_alloc]; omega) ?_))
        intro v2 w2 hown2 hgrow2 hnil2
        have hO2 := OwnB.app hown2 rfl HO.out.2 (by intro z hz; simp at hz; subst hz; decide)
        have HO2 := hide hO2
        have hl2 : (macM m 5 ++ [58]).length ≤ 19 := by rw [List.length_append]; show _ + 1 ≤ 19; omega
        have hlo2 := HO.out.1.lt
        have hb2 : Below w1.heap.size w1 w2 := (hb.alloc hb.size _).grown hgrow2 (by have := hb.size; rw [World.size_alloc]; omega) (fun k hk => (hlo2 k hk).1)
        clear hO2 hown2 hgrow2 hnil2 hlo2
        go_wp2_with fail
        go_region_law (refine step_append_own rfl (.tmp 21) (.tmp 28) 22 rfl w1.heap.size 5 i _ 1 1 Tryd.underlying22 HI.out HZ0.out HZ1.out HZ2.out rfl (by decide) v2 (macM m 5 ++ [58]).length (bval (macM m 5 ++ [58])) (by simp [Act.eval]) (by exact World.ownsRow.drew (HO2.out.1.alloc _)) ⟨w2.heap.size, 0, none⟩ 2 2 (bval [((hxb q).toNat : Int), ((hxb r).toNat : Int)]) (by simp [Act.eval]) rfl (by exact cell_two' w2 _ _ _) (oneCells _) (by unfold maxLen; omega) (by omega) (by show _ ≤ (World.alloc _ _).heap.size; rw [World.size_alloc]; have := hb2.size; omega) ?_; intro v3 w3 hown3 hgrow3 hnil3)
        all_goals
          have hO3 := OwnB.app hown3 rfl HO2.out.2 (by intro z hz; simp at hz; rcases hz with rfl | rfl; exact hxb_bd _; exact hxb_bd _)
          have HO3 : Hid (OwnB w3 w1.heap.size v3 (macM m 6)) := hide (by
            have e : macM m 6 = (macM m 5 ++ [58]) ++ [((hxb q).toNat : Int), ((hxb r).toNat : Int)] := by rw [macM_succ m 5, HHI2.out, HLO2.out]; rfl
            rw [e]; exact hO3)
          have hlo := HO2.out.1.lt
          have hb3 : Below w1.heap.size w1 w3 := ((hb2.alloc hb2.size _).drew).grown hgrow3 (by show _ ≤ (World.alloc _ _).heap.size; rw [World.size_alloc]; have := hb2.size; omega) (fun k hk => (hlo k hk).1)
          clear hO3 hown3 hgrow3 hnil3 hlo
          go_wp2_with fail
          exact ⟨⟨6, by omega, by go_num, HO3, hb3⟩, by simp [intOf]⟩
    · have hk6 : k = 6 := by omega
      subst hk6
      obtain ⟨g, cap, hv, hgB, hglt⟩ := HO.out.form (by rw [macM_six m]; simp [macU])
      have hconv : (convert 22 9 u4).run Tryd.prog wr = .ok (.string (macL m 6)) wr := by
        rw [hv]
        have hcell : ∀ j (hj : j < (macU m).length), wr.cell? ((⟨g, 0, none⟩ : Addr).add j) = some (.int .u8 ((macU m)[j].toNat : Int)) := by
          intro j hj
          have hj2 : j < (macM m 6).length := by rw [macM_six m]; simpa using hj
          have hc := (hv ▸ HO.out.1 : wr.ownsRow w1.heap.size 5 1 (.slice (some ⟨g, 0, none⟩) (macM m 6).length cap) (macM m 6).length (bval (macM m 6))).cellAt j (by omega)
          rw [Addr.add_lit, Nat.zero_add, hc, bval_get _ _ hj2]
          have e : (macM m 6).getD j 0 = ((macU m)[j].toNat : Int) := by
            rw [List.getD_eq_getElem?_getD, macM_six m, List.getElem?_map, List.getElem?_eq_getElem hj]; rfl
          rw [e]; rfl
        have h := run_convert_bytes_back (P := Tryd.prog) wr 22 9 5 ⟨g, 0, none⟩ cap (macU m) Tryd.underlying22 Tryd.underlying5 Tryd.underlying9 hcell
        rw [macU_text m] at h
        have hl : (macM m 6).length = (macU m).length := by rw [macM_six m]; simp
        rw [hl]; exact h
      clear hv
      go_wp2_with fail
      go_ret2
      exact ⟨rfl, hb1.trans (hb.mono hb1.size)⟩
end Go.Proofs.YtmgjagajcmeikalDoor
