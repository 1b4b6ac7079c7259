/-
Contracts of functions of this seat.
-/
import Derived.Test.YtcnfnimgpiaamaaDoorRows
import Derived.WalkKit
import Derived.ProofKit
import Derived.OpenShut
import Derived.Test.YtcnfnimgpiaamaaDoorFrb
import Derived.Laws.CopyOwn
import Derived.Deep.RegionHeld3
import Derived.Laws.OwnMore
namespace Go.Proofs.YtcnfnimgpiaamaaDoor
open Go.ChangeShapes Go.WideShapes Go.ChangeAt Go.RowKit
set_option linter.unusedVariables false
set_option maxRecDepth 100000
theorem three_cells {w : World} {g t : Nat} {x y z : Value} (h : w.heap[g]? = some (.cells #[x, y, z] t)) : w.cell? ⟨g, 0, none⟩ = some x ∧ w.cell? ⟨g, 1, none⟩ = some y ∧ w.cell? ⟨g, 2, none⟩ = some z ∧ ∀ o, w.frozen? ⟨g, o, none⟩ = false :=
  ⟨cell_of_row w g 0 _ _ _ h, cell_of_row w g 1 _ _ _ h, cell_of_row w g 2 _ _ _ h, fun o => frozen_of_row w g o _ _ h⟩
/-- A cursor lies in block g: its bytes, its place, its error. -/
def Cur (w : World) (g : Nat) (bv : Value) (p : Nat) (ev : Value) : Prop := w.heap[g]? = some (.cells #[bv, .int .i64 (p : Int), ev] 69)
theorem Cur.lt {w : World} {g p : Nat} {bv ev : Value} (h : Cur w g bv p ev) : g < w.heap.size := (Array.getElem?_eq_some_iff.1 h).1
theorem Cur.cells {w : World} {g p : Nat} {bv ev : Value} (h : Cur w g bv p ev) : w.cell? ⟨g, 0, none⟩ = some bv ∧ w.cell? ⟨g, 1, none⟩ = some (.int .i64 (p : Int)) ∧ w.cell? ⟨g, 2, none⟩ = some ev ∧ ∀ o, w.frozen? ⟨g, o, none⟩ = false := three_cells h
theorem Cur.below {w w' : World} {g p B : Nat} {bv ev : Value} (h : Cur w g bv p ev) (hb : Below B w w') (hB : g < B) : Cur w' g bv p ev := (hb.block g hB).trans h
theorem Cur.kept {w w' : World} {g p : Nat} {bv ev : Value} {row : Option Nat} (h : Cur w g bv p ev) (hg : w.grownBy w' row) (hne : some g ≠ row) : Cur w' g bv p ev := (hg.block g h.lt hne).trans h
theorem Cur.err {w : World} {g p : Nat} {bv ev : Value} (h : Cur w g bv p ev) (u : Value) : Cur (w.setCell ⟨g, 2, none⟩ u) g bv p u := heap_setCell_same w g 2 _ _ u h
theorem Cur.place {w : World} {g p : Nat} {bv ev : Value} (h : Cur w g bv p ev) (q : Nat) : Cur (w.setCell ⟨g, 1, none⟩ (.int .i64 (q : Int))) g bv q ev := heap_setCell_same w g 1 _ _ _ h
theorem Cur.bytes {w : World} {g p : Nat} {bv ev : Value} (h : Cur w g bv p ev) (u : Value) : Cur (w.setCell ⟨g, 0, none⟩ u) g u p ev := heap_setCell_same w g 0 _ _ u h
theorem grown_cell (w : World) (g i : Nat) (u : Value) : w.grownBy (w.setCell ⟨g, i, none⟩ u) (some g) :=
  ⟨rfl, rfl, rfl, by simp, fun k _ hk => heap_setCell_other w ⟨g, i, none⟩ k u (fun e => hk (by rw [e]))⟩
theorem grown_under {w w' : World} {g B : Nat} (h : w.grownBy w' (some g)) (hB : B ≤ g) (hs : B ≤ w.heap.size) : Below B w w' :=
  ⟨h.os, h.tape, h.output, h.size, fun k hk => h.block k (by omega) (fun e => by cases e; omega)⟩
/-- The error that a cursor remembers. -/
abbrev wErr (code : Int) : Value := .iface 113 (.agg #[.int .i64 code])
theorem demand_err (g p : Nat) (bv : Value) (c : Int) (h : Bool) (code : Int) (w : World) (hc : Cur w g bv p (wErr c)) :
    Calls Tryd.prog 41 #[.pointer (some ⟨g, 0, none⟩), .bool h, .int .i64 code] w fun e w' => e = .returned (.tuple #[]) ∧ w' = w := by
  obtain ⟨c0, c1, c2, cf⟩ := hc.cells
  clear hc
  go_enter Tryd.func41, Tryd.ntmps41
  go_wp2
  go_end0
  exact ⟨rfl, rfl⟩
theorem demand_yes (g p : Nat) (bv : Value) (code : Int) (w : World) (hc : Cur w g bv p .nilIface) :
    Calls Tryd.prog 41 #[.pointer (some ⟨g, 0, none⟩), .bool true, .int .i64 code] w fun e w' => e = .returned (.tuple #[]) ∧ w' = w := by
  obtain ⟨c0, c1, c2, cf⟩ := hc.cells
  clear hc
  go_enter Tryd.func41, Tryd.ntmps41
  go_wp2
  go_end0
  exact ⟨rfl, rfl⟩
theorem demand_no (g p : Nat) (bv : Value) (code : Int) (w : World) (hc : Cur w g bv p .nilIface) :
    Calls Tryd.prog 41 #[.pointer (some ⟨g, 0, none⟩), .bool false, .int .i64 code] w fun e w' => e = .returned (.tuple #[]) ∧ Cur w' g bv p (wErr code) ∧ w.grownBy w' (some g) := by
  obtain ⟨c0, c1, c2, cf⟩ := hc.cells
  have HC := hide hc
  clear hc
  go_enter Tryd.func41, Tryd.ntmps41
  go_wp2
  go_end0
  exact ⟨rfl, HC.out.err _, grown_cell _ _ _ _⟩
theorem left_walk (g p n cap : Nat) (a : Option Addr) (ev : Value) (w : World) (hc : Cur w g (.slice a n cap) p ev) (hn : n ≤ 140737488355328) (hp : p ≤ n) :
    Calls Tryd.prog 48 #[.pointer (some ⟨g, 0, none⟩)] w fun e w' => e = .returned (.int .i64 ((n : Int) - (p : Int))) ∧ ∃ m, w' = w.drewN m := by
  obtain ⟨c0, c1, c2, cf⟩ := hc.cells
  clear hc
  go_enter Tryd.func48, Tryd.ntmps48
  go_wp2
  go_quiet (fail)
  go_wp2
  go_ret
  exact ⟨rfl, _, rfl⟩
theorem Cur.drewN {w : World} {g p : Nat} {bv ev : Value} (h : Cur w g bv p ev) (m : Nat) : Cur (w.drewN m) g bv p ev := h
/-- A part of a slice, its end a sum. -/
theorem sl_part' (b off n cap p k : Nat) (hk : p + k ≤ cap) (hc : p < cap) (w : World) : (Instr.slice 23 (.slice (some ⟨b, off, none⟩) n cap) (some (.int .i64 (p : Int))) (some (.int .i64 ((p : Int) + (k : Int)))) none).run Tryd.prog w = .ok (.slice (some ⟨b, off + p, none⟩) k (cap - p)) w := by
  have hs : (sizeOf (Tryd.prog.elem 23)).run Tryd.prog w = .ok 1 w := Tryd.sizeOf5 w
  have he := run_slice_lh (P := Tryd.prog) (w := w) 23 (some ⟨b, off, none⟩) n cap Tryd.underlying23 .i64 .i64 (p : Int) ((p : Int) + (k : Int)) (by omega) (by omega) (by omega)
  rw [he, hs]
  simp [sliced, Result.andThen, Addr.add_lit]
  omega
theorem Cur.stepped {w : World} {g p : Nat} {bv ev : Value} (h : Cur w g bv p ev) (m k : Nat) : Cur ((w.drewN m).setCell ⟨g, 1, none⟩ (.int .i64 ((p : Int) + (k : Int)))) g bv (p + k) ev ∧ w.grownBy ((w.drewN m).setCell ⟨g, 1, none⟩ (.int .i64 ((p : Int) + (k : Int)))) (some g) := by
  have hp := (h.drewN m).place (p + k)
  rw [show ((p + k : Nat) : Int) = (p : Int) + (k : Int) by omega] at hp
  have hg := grown_cell (w.drewN m) g 1 (.int .i64 ((p : Int) + (k : Int)))
  exact ⟨hp, ⟨hg.os, hg.tape, hg.output, hg.size, hg.block⟩⟩
set_option maxHeartbeats 1000000 in
theorem pass_ok (g p n cap b off k : Nat) (w : World) (hc : Cur w g (.slice (some ⟨b, off, none⟩) n cap) p .nilIface) (hn : n ≤ 140737488355328) (hk : p + k ≤ n) (hp : p < cap) (hcap : n ≤ cap) :
    Calls Tryd.prog 45 #[.pointer (some ⟨g, 0, none⟩), .int .i64 (k : Int)] w fun e w' => e = .returned (.slice (some ⟨b, off + p, none⟩) k (cap - p)) ∧ Cur w' g (.slice (some ⟨b, off, none⟩) n cap) (p + k) .nilIface ∧ w.grownBy w' (some g) := by
  have CL := hide (left_walk g p n cap (some ⟨b, off, none⟩) .nilIface w hc hn (by omega))
  have HC := hide hc
  obtain ⟨c0, c1, c2, cf⟩ := hc.cells
  have hk0 : (0 : Int) ≤ (k : Int) := by omega
  have hk1 : (k : Int) ≤ (n : Int) - (p : Int) := by omega
  have sl := sl_part' b off n cap p k (by omega) hp
  clear hc
  go_enter Tryd.func45, Tryd.ntmps45
  go_wp2_with fail
  refine CL.out.mono ?_
  rintro e w1 ⟨rfl, m, rfl⟩
  go_wp2_with fail
  refine (demand_yes g p _ _ _ (HC.out.drewN m)).mono ?_
  rintro e w2 ⟨rfl, rfl⟩
  go_wp2_with fail
  have HS := hide (HC.out.stepped m k)
  generalize (w.drewN m).setCell ⟨g, 1, none⟩ (.int .i64 ((p : Int) + (k : Int))) = W at *
  obtain ⟨d0, d1, d2, df⟩ := HS.out.1.cells
  rw [show ((p + k : Nat) : Int) = (p : Int) + (k : Int) by omega] at d1
  clear c0 c1 c2 cf HC CL
  go_quiet (fail)
  go_wp2
  go_ret
  exact ⟨rfl, HS.out.1.drewN nq, ⟨HS.out.2.os, HS.out.2.tape, HS.out.2.output, HS.out.2.size, HS.out.2.block⟩⟩
set_option maxHeartbeats 1000000 in
theorem pass_err (g p n cap : Nat) (a : Option Addr) (c k : Int) (w : World) (hc : Cur w g (.slice a n cap) p (wErr c)) (hn : n ≤ 140737488355328) (hp : p ≤ n) (hk0 : -9223372036854775808 ≤ k) (hk1 : k ≤ 9223372036854775807) :
    Calls Tryd.prog 45 #[.pointer (some ⟨g, 0, none⟩), .int .i64 k] w fun e w' => e = .returned (.slice none 0 0) ∧ ∃ m, w' = w.drewN m := by
  have CL := hide (left_walk g p n cap a (wErr c) w hc hn (by omega))
  have HC := hide hc
  obtain ⟨c0, c1, c2, cf⟩ := hc.cells
  clear hc
  by_cases h0 : 0 ≤ k
  · go_enter Tryd.func45, Tryd.ntmps45
    go_wp2_with fail
    refine CL.out.mono ?_
    rintro e w1 ⟨rfl, m, rfl⟩
    go_wp2_with fail
    refine (demand_err g p _ c _ _ _ (HC.out.drewN m)).mono ?_
    rintro e w2 ⟨rfl, rfl⟩
    go_wp2_with fail
    go_ret
    exact ⟨rfl, _, rfl⟩
  · have hd : decide (0 ≤ k) = false := by simpa using h0
    go_enter Tryd.func45, Tryd.ntmps45
    go_wp2_with fail
    refine (demand_err g p _ c _ _ _ HC.out).mono ?_
    rintro e w2 ⟨rfl, rfl⟩
    go_wp2_with fail
    go_ret
    exact ⟨rfl, 0, rfl⟩

/-- A row of bytes lies in block G. -/
def RowB (w : World) (G : Nat) (xs : List Int) : Prop := w.heap[G]? = some (.cells (bval xs).toArray 5)
theorem RowB.lt {w : World} {G : Nat} {xs : List Int} (h : RowB w G xs) : G < w.heap.size := (Array.getElem?_eq_some_iff.1 h).1
theorem RowB.below {w w' : World} {G B : Nat} {xs : List Int} (h : RowB w G xs) (hb : Below B w w') (hB : G < B) : RowB w' G xs := (hb.block G hB).trans h
theorem RowB.kept {w w' : World} {G : Nat} {xs : List Int} {row : Option Nat} (h : RowB w G xs) (hg : w.grownBy w' row) (hne : some G ≠ row) : RowB w' G xs := (hg.block G h.lt hne).trans h
theorem RowB.cell {w : World} {G : Nat} {xs : List Int} (h : RowB w G xs) (j : Nat) (hj : j < xs.length) : w.cell? ⟨G, j, none⟩ = some (.int .u8 (xs.getD j 0)) := by
  have hv := bval_get xs j hj
  simp [World.cell?, show w.heap[G]? = some (.cells (bval xs).toArray 5) from h, hv]
theorem RowB.frozen {w : World} {G : Nat} {xs : List Int} (h : RowB w G xs) (o : Nat) : w.frozen? ⟨G, o, none⟩ = false := frozen_of_row w G o _ _ h
theorem RowB.set {w : World} {G : Nat} {xs : List Int} (h : RowB w G xs) (q : Nat) (z : Int) : RowB (w.setCell ⟨G, q, none⟩ (.int .u8 z)) G (xs.set q z) := by
  have hs := heap_setCell_same w G q _ _ (.int .u8 z) h
  unfold RowB
  rw [hs]
  congr 2
  unfold bval
  apply Array.ext'
  simp [List.map_set]
theorem RowB.arr {w : World} {G : Nat} {xs : List Int} (h : RowB w G xs) (hb : ∀ z ∈ xs, 0 ≤ z ∧ z ≤ 255) : Arr w (some ⟨G, 0, none⟩) xs :=
  ⟨hb, fun j hj => ⟨G, 0, rfl, h.lt, by rw [Nat.zero_add]; exact h.cell j hj⟩⟩
theorem splice_set {α : Type} (L : List α) (q : Nat) (cs : List α) (z : α) (h : q < L.length) : (splice L (q + 1) cs).set q z = splice L q (z :: cs) := by
  unfold splice
  rw [List.take_succ_eq_append_getElem h, List.append_assoc]
  rw [List.set_append_right _ _ (by rw [List.length_take]; omega)]
  rw [show q - (L.take q).length = 0 by rw [List.length_take]; omega]
  simp only [List.nil_append, List.set_cons_zero, List.cons_append, List.length_cons]
  rw [show q + 1 + cs.length = q + (cs.length + 1) by omega]
theorem putL_get (v : Int) (k j : Nat) (h : j < k) : (putL v k)[j]? = some (byteOf v k j) := by unfold putL; simp [h]
theorem putL_drop (v : Int) (k j : Nat) (h : j < k) : (putL v k).drop j = byteOf v k j :: (putL v k).drop (j + 1) := by
  have hl : j < (putL v k).length := by rw [putL_len]; exact h
  rw [List.drop_eq_getElem_cons hl]
  congr 1
  have e := putL_get v k j h
  rw [List.getElem?_eq_getElem hl] at e
  exact Option.some.inj e
set_option maxHeartbeats 1000000 in
theorem putNumber_at (G off k cap : Nat) (v : Int) (xs : List Int) (w : World) (hk : k ≤ 8) (hr : RowB w G xs) (hf : off + k ≤ xs.length) :
    Calls Tryd.prog 126 #[.slice (some ⟨G, off, none⟩) k cap, .int .i64 v] w fun e' w' => e' = .returned (.tuple #[]) ∧ RowB w' G (splice xs off (putL v k)) ∧ w.grownBy w' (some G) := by
  have HR : Hid (RowB w G (splice xs (off + (k - 0)) ((putL v k).drop (k - 0)))) := hide (by
    have e : (putL v k).drop k = [] := List.drop_eq_nil_of_le (by rw [putL_len]; omega)
    rw [Nat.sub_zero, e]; unfold splice; simp; exact hr)
  have HF := hide hf
  clear hr hf
  go_enter Tryd.func126, Tryd.ntmps126
  go_wp2_with fail
  go_loopw [7] (fun t w2 => ∃ (j : Nat), j ≤ k ∧ t = .int .i64 j ∧ w.grownBy w2 (some G) ∧ Hid (RowB w2 G (splice xs (off + (k - j)) ((putL v k).drop (k - j))))) (fun t _ => k - (intOf t).toNat)
  case atStart => exact ⟨0, Nat.zero_le _, rfl, World.grownBy.refl _ _, HR⟩
  case round =>
    obtain ⟨j, hj, rfl, hb, HO2⟩ := hrel
    by_cases hlt : j < k
    · have HL : Hid ((splice xs (off + (k - j)) ((putL v k).drop (k - j))).length = xs.length) := hide (length_splice _ _ _ (by rw [List.length_drop, putL_len]; have := HF.out; omega))
      have hfz : wr.frozen? ⟨G, off + (k - 1 - j), none⟩ = false := HO2.out.frozen _
      have hc3 := HO2.out.cell (off + (k - 1 - j)) (by rw [HL.out]; have := HF.out; omega)
      have HST := hide (HO2.out.set (off + (k - 1 - j)) (v / 2 ^ (8 * j) % 256))
      have HE : Hid ((splice xs (off + (k - j)) ((putL v k).drop (k - j))).set (off + (k - 1 - j)) (v / 2 ^ (8 * j) % 256) = splice xs (off + (k - (j + 1))) ((putL v k).drop (k - (j + 1)))) := hide (by
        have e1 : k - j = k - 1 - j + 1 := by omega
        have e2 : k - (j + 1) = k - 1 - j := by omega
        rw [e1, e2, ← Nat.add_assoc, splice_set _ _ _ _ (by have := HF.out; omega), putL_drop v k (k - 1 - j) (by omega)]
        congr 2
        unfold byteOf
        rw [show k - 1 - (k - 1 - j) = j by omega])
      generalize (splice xs (off + (k - j)) ((putL v k).drop (k - j))).getD (off + (k - 1 - j)) 0 = old at *
      clear HO2
      go_wp2
      exact ⟨⟨j + 1, by omega, by go_num, grown_trans hb (grown_cell _ _ _ _), hide (by rw [← HE.out]; exact HST.out)⟩, by simp [intOf]; omega⟩
    · have hj' : j = k := by omega
      subst hj'
      go_wp2
      go_end0
      refine ⟨rfl, ?_, hb⟩
      have h := HO2.out
      rw [Nat.sub_self] at h
      exact h

set_option maxHeartbeats 1000000 in
theorem takeNumber_walk (a : Option Addr) (n cap : Nat) (zs : List Int) (w : World) (hn : zs.length = n) (ha : Arr w a zs) (hm : n ≤ 6) :
    Calls Tryd.prog 85 #[.slice a n cap] w fun e w' => e = .returned (.int .i64 (tnum zs)) ∧ w' = w := by
  have HN := hide hn
  have HA := hide ha
  clear hn ha
  go_enter Tryd.func85, Tryd.ntmps85
  go_wp2_with fail
  go_loop [3, 8] (fun r t => ∃ k : Nat, k ≤ n ∧ t = .int .i64 k ∧ r = .int .i64 (tnum (zs.take k))) (fun _ t => n - (intOf t).toNat)
  case atStart => exact ⟨0, Nat.zero_le _, rfl, rfl⟩
  case round =>
    obtain ⟨k, hk, rfl, rfl⟩ := hrel
    have hb := tnum_bd zs HA.out.1 k (by rw [HN.out]; exact hk)
    by_cases hlt : k < n
    · obtain ⟨b1, o1, rfl, hb1, hc1⟩ := HA.out.2 k (by rw [HN.out]; exact hlt)
      have HT := hide (tnum_take zs k (by rw [HN.out]; exact hlt))
      have hz := getD_bd HA.out.1 k
      have hp : (256 : Nat) ^ k ≤ 256 ^ 5 := Nat.pow_le_pow_right (by decide) (by omega)
      have hp2 : (256 : Nat) ^ k ≤ 1099511627776 := hp
      have hp' : ((256 : Int) ^ k) ≤ 1099511627776 := by
        have h2 : ((256 ^ k : Nat) : Int) ≤ ((1099511627776 : Nat) : Int) := Int.ofNat_le.2 hp2
        rw [Int.natCast_pow] at h2; exact h2
      have hb0 := hb.1
      have hb2 : tnum (zs.take k) < 1099511627776 := by have := hb.2; omega
      have ho := or_low_i64 (tnum (zs.take k)) (zs.getD k 0) hb.1 (by omega) hz
      clear hb hp hp2 hp'
      generalize zs.getD k 0 = z at *
      generalize tnum (zs.take k) = r at *
      go_wp2
      go_round
      case rel => exact ⟨k + 1, by omega, by go_num, by rw [HT.out]⟩
      case measure => simp [intOf]; omega
    · have hk' : k = n := by omega
      subst hk'
      have HE : Hid (zs.take k = zs) := hide (List.take_of_length_le (by rw [HN.out]; exact Nat.le_refl _))
      go_wp2
      go_ret
      exact ⟨ret_int (by rw [HE.out]), rfl⟩

theorem run_bytes (n : Nat) (w : World) (h : n ≤ 1048576) : (Instr.makeSlice 23 (.int .i64 (n : Int)) (.int .i64 (n : Int))).run Tryd.prog w = .ok (.slice (some ⟨w.heap.size, 0, none⟩) n n) (w.alloc (.cells (bval (List.replicate n 0)).toArray 5)) := by
  obtain ⟨i, hi, hz0, hz1, hz2⟩ := info_parts Tryd.infoB
  have hr := run_makeSlice (P := Tryd.prog) w 23 5 i (.int .u8 0) Tryd.underlying23 hi hz0 .i64 .i64 (n : Int) (n : Int) (by omega) (Int.le_refl _) (by rw [hz1, Int.toNat_natCast]; omega) (by rw [hz2]; omega) (by omega)
  rw [hr, hz1, Int.toNat_natCast, Nat.mul_one]
  congr 3
  apply Array.ext'
  rw [show (Value.int IntKind.u8 0).cells = #[.int .u8 0] from rfl, toList_madeCells_one]
  unfold bval
  simp
theorem makeRoom_err (g p : Nat) (bv : Value) (c size : Int) (w : World) (hc : Cur w g bv p (wErr c)) :
    Calls Tryd.prog 111 #[.pointer (some ⟨g, 0, none⟩), .int .i64 size] w fun e w' => e = .returned (.tuple #[]) ∧ w' = w := by
  obtain ⟨c0, c1, c2, cf⟩ := hc.cells
  clear hc
  go_enter Tryd.func111, Tryd.ntmps111
  go_wp2
  go_end0
  exact ⟨rfl, rfl⟩
theorem makeRoom_ok (g p : Nat) (bv : Value) (size : Nat) (w : World) (hc : Cur w g bv p .nilIface) (hs : size ≤ 1048576) :
    Calls Tryd.prog 111 #[.pointer (some ⟨g, 0, none⟩), .int .i64 (size : Int)] w fun e w' => e = .returned (.tuple #[]) ∧ Cur w' g (.slice (some ⟨w.heap.size, 0, none⟩) size size) p .nilIface ∧ RowB w' w.heap.size (List.replicate size 0) ∧ w.grownBy w' (some g) := by
  obtain ⟨c0, c1, c2, cf⟩ := hc.cells
  have HC := hide hc
  have hlt := hc.lt
  clear hc
  have rm := run_bytes size w hs
  have hrow : RowB (w.alloc (.cells (bval (List.replicate size 0)).toArray 5)) w.heap.size (List.replicate size 0) := heap_alloc_new _ _
  have HC1 := hide (HC.out.kept (World.grownBy_alloc w (.cells (bval (List.replicate size 0)).toArray 5) none) (by simp))
  have HG := hide (World.grownBy_alloc w (.cells (bval (List.replicate size 0)).toArray 5) (some g))
  have HRow := hide hrow
  clear hrow HC
  generalize hW : w.alloc (.cells (bval (List.replicate size 0)).toArray 5) = W at *
  obtain ⟨e0, e1, e2, ef⟩ := HC1.out.cells
  have HW := hide hW
  clear hW
  go_enter Tryd.func111, Tryd.ntmps111
  go_wp2
  go_end0
  have hs := grown_cell W g 0 (.slice (some ⟨w.heap.size, 0, none⟩) size size)
  exact ⟨rfl, HC1.out.bytes _, HRow.out.kept hs (by intro e; cases e; omega), grown_trans HG.out hs⟩
theorem putNumber_none (v : Int) (w : World) :
    Calls Tryd.prog 126 #[.slice none 0 0, .int .i64 v] w fun e' w' => e' = .returned (.tuple #[]) ∧ w' = w := by
  go_enter Tryd.func126, Tryd.ntmps126
  go_wp2_with fail
  refine wp_loop_rounds 1 ?_
  rw [rounds_succ]
  go_wp2
  go_end0
  exact ⟨rfl, rfl⟩
set_option maxHeartbeats 1000000 in
theorem put_ok (g p G N k : Nat) (v : Int) (xs : List Int) (w : World) (hc : Cur w g (.slice (some ⟨G, 0, none⟩) N N) p .nilIface) (hr : RowB w G xs) (hg : g < G) (hx : xs.length = N) (hN : N ≤ 1048576) (hk : p + k ≤ N) (hp : p < N) (h8 : k ≤ 8) :
    Calls Tryd.prog 112 #[.pointer (some ⟨g, 0, none⟩), .int .i64 v, .int .i64 (k : Int)] w fun e w' => e = .returned (.tuple #[]) ∧ Cur w' g (.slice (some ⟨G, 0, none⟩) N N) (p + k) .nilIface ∧ RowB w' G (splice xs p (putL v k)) ∧ Below g w w' := by
  have cp := pass_ok g p N N G 0 k w hc (by omega) hk hp (Nat.le_refl _)
  rw [Nat.zero_add] at cp
  have CP := hide cp
  clear cp
  have hgl := hc.lt
  have HR := hide hr
  have HX := hide hx
  clear hc hr hx
  go_enter Tryd.func112, Tryd.ntmps112
  go_wp2_with fail
  refine CP.out.mono ?_
  rintro e w1 ⟨rfl, hc1, hg1⟩
  have HC1 := hide hc1
  have hr1 := HR.out.kept hg1 (by intro e; cases e; omega)
  have CN := hide (putNumber_at G p k (N - p) v xs w1 h8 hr1 (by rw [HX.out]; omega))
  have HB1 := hide (grown_under hg1 (Nat.le_refl g) (by omega))
  clear hc1 hg1 hr1
  go_wp2_with fail
  refine CN.out.mono ?_
  rintro e w2 ⟨rfl, hr2, hg2⟩
  have HC2 := hide (HC1.out.kept hg2 (by intro e; cases e; omega))
  have HB2 := hide (grown_under hg2 (Nat.le_of_lt hg) (by have := HB1.out.size; omega))
  have HR2 := hide hr2
  clear hr2 hg2
  go_wp2_with fail
  go_end0
  exact ⟨rfl, HC2.out, HR2.out, HB1.out.trans HB2.out⟩
set_option maxHeartbeats 1000000 in
theorem put_err (g p n cap : Nat) (a : Option Addr) (c v k : Int) (w : World) (hc : Cur w g (.slice a n cap) p (wErr c)) (hn : n ≤ 140737488355328) (hp : p ≤ n) (hk0 : -9223372036854775808 ≤ k) (hk1 : k ≤ 9223372036854775807) :
    Calls Tryd.prog 112 #[.pointer (some ⟨g, 0, none⟩), .int .i64 v, .int .i64 k] w fun e w' => e = .returned (.tuple #[]) ∧ ∃ m, w' = w.drewN m := by
  have CP := hide (pass_err g p n cap a c k w hc hn hp hk0 hk1)
  clear hc
  go_enter Tryd.func112, Tryd.ntmps112
  go_wp2_with fail
  refine CP.out.mono ?_
  rintro e w1 ⟨rfl, m, rfl⟩
  go_wp2_with fail
  refine (putNumber_none v _).mono ?_
  rintro e w2 ⟨rfl, rfl⟩
  go_wp2_with fail
  go_end0
  exact ⟨rfl, m, rfl⟩
theorem bval_splice (xs zs : List Int) (p : Nat) : bval (splice xs p zs) = splice (bval xs) p (bval zs) := by
  unfold bval splice
  simp [List.map_take, List.map_drop]
theorem copy_into (ty : TypeId) (G p n dcap cap : Nat) (a : Option Addr) (xs zs : List Int) (w : World) (hr : RowB w G xs) (hn : zs.length = n) (hf : p + n ≤ xs.length) (hsrc : ∀ j v, (bval zs)[j]? = some v → ∃ b off, a = some ⟨b, off, none⟩ ∧ w.cell? ⟨b, off + j, none⟩ = some v) :
    ∃ W, (Builtin.copy_ #[23, 23] ty #[.slice (some ⟨G, p, none⟩) n dcap, .slice a n cap]).run Tryd.prog w = .ok (goInt n) W ∧ RowB W G (splice xs p zs) ∧ w.grownBy W (some G) := by
  obtain ⟨i, hi, hz0, hz1, hz2⟩ := info_parts Tryd.infoB
  have hs : (Tryd.prog.info? 5).map (·.size) = some 1 := by rw [hi]; simp [hz1]
  have hbl : (bval zs).length = n := by unfold bval; rw [List.length_map]; exact hn
  have hxl : (bval xs).length = xs.length := by unfold bval; rw [List.length_map]
  cases n with
  | zero =>
    have e : zs = [] := List.length_eq_zero_iff.1 hn
    subst e
    refine ⟨w, run_copy_none (P := Tryd.prog) w 23 23 ty 5 (some ⟨G, p, none⟩) a 0 dcap 0 cap Tryd.underlying23 hs (by simp), ?_, World.grownBy.refl _ _⟩
    have e2 : splice xs p [] = xs := by unfold splice; simp
    rw [e2]; exact hr
  | succ m =>
    obtain ⟨b, off, ea, _⟩ := hsrc 0 _ (List.getElem?_eq_getElem (by omega))
    subst ea
    have h := run_copy_row (P := Tryd.prog) w 23 23 ty 5 G p (m + 1) dcap ⟨b, off, none⟩ (m + 1) cap (bval xs).toArray 5 (bval zs) Tryd.underlying23 hs hr (by rw [hbl]; simp) (fun j v hv => by
      obtain ⟨b', o', e, hc⟩ := hsrc j v hv
      cases e
      rw [Addr.add_lit]; exact hc) (by rw [hbl]; simp [hxl]; omega) (oneCells zs)
    refine ⟨w.setRow G (splice (bval xs) p (bval zs)).toArray, ?_, ?_, ⟨rfl, rfl, rfl, by simp [World.setRow], fun k _ hk => setRow_other w G k _ (fun e => hk (by rw [e]))⟩⟩
    · rw [h]
      unfold splice
      rw [List.append_assoc, hbl]
    · unfold RowB
      rw [bval_splice]
      exact setRow_heap w G _ _ _ _ hr
set_option maxHeartbeats 1000000 in
theorem take_ok (g p n cap b off k : Nat) (zs : List Int) (w : World) (hc : Cur w g (.slice (some ⟨b, off, none⟩) n cap) p .nilIface) (hn : n ≤ 1048576) (hk : p + k ≤ n) (hp : p < cap) (hcap : n ≤ cap) (hz : zs.length = n) (ha : Arr w (some ⟨b, off, none⟩) zs) (hb : b ≠ g) (h6 : k ≤ 6) :
    Calls Tryd.prog 43 #[.pointer (some ⟨g, 0, none⟩), .int .i64 (k : Int)] w fun e w' => e = .returned (.int .i64 (tnum ((zs.drop p).take k))) ∧ Cur w' g (.slice (some ⟨b, off, none⟩) n cap) (p + k) .nilIface ∧ w.grownBy w' (some g) := by
  have CP := hide (pass_ok g p n cap b off k w hc (by omega) hk hp hcap)
  have HZ := hide hz
  have HA := hide ha
  clear hc ha hz
  go_enter Tryd.func43, Tryd.ntmps43
  go_wp2_with fail
  refine CP.out.mono ?_
  rintro e w1 ⟨rfl, hc1, hg1⟩
  have HC1 := hide hc1
  have HG1 := hide hg1
  have ha1 : Arr w1 (some ⟨b, off, none⟩) zs := ⟨HA.out.1, fun j hj => by
    obtain ⟨b', o', e, hlt, hcell⟩ := HA.out.2 j hj
    cases e
    exact ⟨b, off, rfl, Nat.lt_of_lt_of_le hlt hg1.size, by rw [World.cell?_of_block (a := ⟨b, off + j, none⟩) (hg1.block b hlt (by intro e; cases e; exact hb rfl))]; exact hcell⟩⟩
  have CT := hide (takeNumber_walk (some ⟨b, off + p, none⟩) k (cap - p) ((zs.drop p).take k) w1 (by rw [List.length_take, List.length_drop, HZ.out]; omega) ((ha1.drop p).take k) h6)
  clear hc1 hg1 ha1
  go_wp2_with fail
  refine CT.out.mono ?_
  rintro e w2 ⟨rfl, hw2⟩
  rw [hw2]
  clear hw2
  go_wp2_with fail
  go_ret
  exact ⟨rfl, HC1.out, HG1.out⟩
theorem takeNumber_none (w : World) :
    Calls Tryd.prog 85 #[.slice none 0 0] w fun e w' => e = .returned (.int .i64 0) ∧ w' = w := takeNumber_walk none 0 0 [] w rfl ⟨by simp, fun j hj => by simp at hj⟩ (by omega)
set_option maxHeartbeats 1000000 in
theorem take_err (g p n cap : Nat) (a : Option Addr) (c k : Int) (w : World) (hc : Cur w g (.slice a n cap) p (wErr c)) (hn : n ≤ 140737488355328) (hp : p ≤ n) (hk0 : -9223372036854775808 ≤ k) (hk1 : k ≤ 9223372036854775807) :
    Calls Tryd.prog 43 #[.pointer (some ⟨g, 0, none⟩), .int .i64 k] w fun e w' => e = .returned (.int .i64 0) ∧ ∃ m, w' = w.drewN m := by
  have CP := hide (pass_err g p n cap a c k w hc hn hp hk0 hk1)
  clear hc
  go_enter Tryd.func43, Tryd.ntmps43
  go_wp2_with fail
  refine CP.out.mono ?_
  rintro e w1 ⟨rfl, m, rfl⟩
  go_wp2_with fail
  refine (takeNumber_none _).mono ?_
  rintro e w2 ⟨rfl, rfl⟩
  go_wp2_with fail
  go_ret
  exact ⟨rfl, m, rfl⟩
theorem RowB.own {w : World} {G B : Nat} {xs : List Int} (h : RowB w G xs) (hB : B ≤ G) (hb : ∀ z ∈ xs, 0 ≤ z ∧ z ≤ 255) (hm : xs.length ≤ 1048576) : OwnB w B (.slice (some ⟨G, 0, none⟩) xs.length xs.length) xs := by
  have hl : (bval xs).length = xs.length := by unfold bval; rw [List.length_map]
  refine ⟨⟨by rw [hl]; omega, .inr ⟨G, xs.length, (bval xs).toArray, rfl, hB, h, Nat.le_refl _, by unfold maxLen; omega, by simp [hl], ?_⟩⟩, hb⟩
  rw [Nat.mul_one, List.toList_toArray]
  exact List.take_of_length_le (by rw [hl]; exact Nat.le_refl _)
theorem splice_all (xs zs : List Int) (h : zs.length = xs.length) : splice xs 0 zs = zs := by
  unfold splice
  rw [List.take_zero, List.nil_append, Nat.zero_add, List.drop_eq_nil_of_le (by omega), List.append_nil]
theorem Arr.aside {w w' : World} {b off g : Nat} {zs : List Int} (h : Arr w (some ⟨b, off, none⟩) zs) (hg : w.grownBy w' (some g)) (hb : b ≠ g) : Arr w' (some ⟨b, off, none⟩) zs :=
  ⟨h.1, fun j hj => by
    obtain ⟨b', o', e, hlt, hcell⟩ := h.2 j hj
    cases e
    exact ⟨b, off, rfl, Nat.lt_of_lt_of_le hlt hg.size, by rw [World.cell?_of_block (a := ⟨b, off + j, none⟩) (hg.block b hlt (by intro e; cases e; exact hb rfl))]; exact hcell⟩⟩
theorem arr_src {w : World} {b off : Nat} {zs : List Int} (h : Arr w (some ⟨b, off, none⟩) zs) : ∀ j v, (bval zs)[j]? = some v → ∃ b' off', some (⟨b, off, none⟩ : Addr) = some ⟨b', off', none⟩ ∧ w.cell? ⟨b', off' + j, none⟩ = some v := by
  intro j v hv
  have hj : j < zs.length := by
    have := (List.getElem?_eq_some_iff.1 hv).1
    simpa [bval] using this
  obtain ⟨b', off', e, hlt, hcell⟩ := h.2 j hj
  exact ⟨b', off', e, by rw [hcell, ← bval_get zs j hj, hv]⟩
theorem grown_new {w u W : World} {g G : Nat} (h : w.grownBy u (some g)) (k : u.grownBy W (some G)) (hG : w.heap.size ≤ G) : w.grownBy W (some g) :=
  ⟨k.os.trans h.os, k.tape.trans h.tape, k.output.trans h.output, Nat.le_trans h.size k.size, fun i hi hne => (k.block i (Nat.lt_of_lt_of_le hi h.size) (fun e => by cases e; omega)).trans (h.block i hi hne)⟩
set_option maxHeartbeats 1000000 in
theorem takeBytes_ok (g p n cap b off k : Nat) (zs : List Int) (w : World) (hc : Cur w g (.slice (some ⟨b, off, none⟩) n cap) p .nilIface) (hn : n ≤ 1048576) (hk : p + k ≤ n) (hp : p < cap) (hcap : n ≤ cap) (hz : zs.length = n) (ha : Arr w (some ⟨b, off, none⟩) zs) (hb : b ≠ g) :
    Calls Tryd.prog 47 #[.pointer (some ⟨g, 0, none⟩), .int .i64 (k : Int)] w fun e w' => ∃ v, e = .returned v ∧ OwnB w' w.heap.size v ((zs.drop p).take k) ∧ Cur w' g (.slice (some ⟨b, off, none⟩) n cap) (p + k) .nilIface ∧ w.grownBy w' (some g) := by
  have CP := hide (pass_ok g p n cap b off k w hc (by omega) hk hp hcap)
  have HL : Hid (((zs.drop p).take k).length = k) := hide (by rw [List.length_take, List.length_drop, hz]; omega)
  have HA := hide ha
  have hgl := hc.lt
  clear hc ha hz
  go_enter Tryd.func47, Tryd.ntmps47
  go_wp2_with fail
  refine CP.out.mono ?_
  rintro e w1 ⟨rfl, hc1, hg1⟩
  have HA1 := hide (HA.out.aside hg1 hb)
  have rm := run_bytes k w1 (by omega)
  have hal := World.grownBy_alloc w1 (.cells (bval (List.replicate k 0)).toArray 5) (some g)
  have hrow : RowB (w1.alloc (.cells (bval (List.replicate k 0)).toArray 5)) w1.heap.size (List.replicate k 0) := heap_alloc_new _ _
  have hz1 := hg1.size
  obtain ⟨W, hrun, hrW, hgW⟩ := copy_into 3 w1.heap.size 0 k k (cap - p) (some ⟨b, off + p, none⟩) (List.replicate k 0) ((zs.drop p).take k) _ hrow HL.out (by rw [List.length_replicate]; omega) (arr_src (((HA1.out.aside hal hb).drop p).take k))
  rw [splice_all _ _ (by rw [HL.out, List.length_replicate])] at hrW
  have HOW := hide (hrW.own (B := w.heap.size) hz1 (((HA1.out.drop p).take k).1) (by rw [HL.out]; omega))
  have HCW := hide ((hc1.kept (World.grownBy_alloc w1 (.cells (bval (List.replicate k 0)).toArray 5) none) (by simp)).kept hgW (by intro e; cases e; omega))
  have HGW := hide (grown_new (grown_trans hg1 hal) hgW hz1)
  rw [HL.out] at HOW
  clear hal hrow hz1 hrW hgW hc1 hg1 HA1 HA
  go_wp2_with fail
  go_ret
  exact ⟨_, rfl, HOW.out, HCW.out, HGW.out⟩
set_option maxHeartbeats 1000000 in
theorem takeBytes_err (g p n cap : Nat) (a : Option Addr) (c k : Int) (w : World) (hc : Cur w g (.slice a n cap) p (wErr c)) (hn : n ≤ 140737488355328) (hp : p ≤ n) (hk0 : -9223372036854775808 ≤ k) (hk1 : k ≤ 9223372036854775807) :
    Calls Tryd.prog 47 #[.pointer (some ⟨g, 0, none⟩), .int .i64 k] w fun e w' => e = .returned (.slice (some ⟨w.heap.size, 0, none⟩) 0 0) ∧ Below w.heap.size w w' := by
  have CP := hide (pass_err g p n cap a c k w hc hn hp hk0 hk1)
  obtain ⟨i, hi, hz0, hz1, hz2⟩ := info_parts Tryd.infoB
  have hs : (Tryd.prog.info? 5).map (·.size) = some 1 := by rw [hi]; simp [hz1]
  have HR := hide (fun w (d : Option Addr) => run_copy_none (P := Tryd.prog) w 23 23 3 5 d none 0 0 0 0 Tryd.underlying23 hs (by simp))
  clear hi hz0 hz1 hz2 hs hc
  go_enter Tryd.func47, Tryd.ntmps47
  go_wp2_with fail
  refine CP.out.mono ?_
  rintro e w1 ⟨rfl, d, rfl⟩
  have rm : (Instr.makeSlice 23 (.int .i64 0) (.int .i64 0)).run Tryd.prog (w.drewN d) = .ok (.slice (some ⟨w.heap.size, 0, none⟩) 0 0) ((w.drewN d).alloc (.cells (bval (List.replicate 0 0)).toArray 5)) := run_bytes 0 (w.drewN d) (by omega)
  have hb := (Below.refl w.heap.size w).alloc (Nat.le_refl _) (.cells (bval (List.replicate 0 0)).toArray 5)
  have HB : Hid (Below w.heap.size w ((w.drewN d).alloc (.cells (bval (List.replicate 0 0)).toArray 5))) := hide ⟨hb.os, hb.tape, hb.output, hb.size, hb.block⟩
  have hr := HR.out ((w.drewN d).alloc (.cells (bval (List.replicate 0 0)).toArray 5)) (some ⟨w.heap.size, 0, none⟩)
  clear hb HR
  generalize (w.drewN d).alloc (.cells (bval (List.replicate 0 0)).toArray 5) = W at *
  go_wp2_with fail
  go_ret
  exact ⟨rfl, HB.out⟩

theorem splice_fill (done cs : List Int) (p m : Nat) (hp : done.length = p) : splice (done ++ List.replicate m 0) p cs = (done ++ cs) ++ List.replicate (m - cs.length) 0 := by
  subst hp
  unfold splice
  rw [List.take_left, List.drop_append, List.drop_eq_nil_of_le (by omega), List.nil_append, List.drop_replicate]
  rw [show done.length + cs.length - done.length = cs.length by omega, List.append_assoc]
theorem put_fill (g G N p m k : Nat) (v : Int) (done : List Int) (w : World) (hc : Cur w g (.slice (some ⟨G, 0, none⟩) N N) p .nilIface) (hr : RowB w G (done ++ List.replicate m 0)) (hg : g < G) (hp : done.length = p) (hN : p + m = N) (hb : N ≤ 1048576) (hk : k ≤ m) (hm : 0 < m) (h8 : k ≤ 8) :
    Calls Tryd.prog 112 #[.pointer (some ⟨g, 0, none⟩), .int .i64 v, .int .i64 (k : Int)] w fun e w' => e = .returned (.tuple #[]) ∧ Cur w' g (.slice (some ⟨G, 0, none⟩) N N) (p + k) .nilIface ∧ RowB w' G ((done ++ putL v k) ++ List.replicate (m - k) 0) ∧ Below g w w' := by
  have h := put_ok g p G N k v _ w hc hr hg (by rw [List.length_append, List.length_replicate, hp, hN]) hb (by omega) (by omega) h8
  rw [splice_fill done _ p m hp, putL_len] at h
  exact h
theorem put_fill6 (g G N p m : Nat) (v : Int) (done : List Int) (w : World) (hc : Cur w g (.slice (some ⟨G, 0, none⟩) N N) p .nilIface) (hr : RowB w G (done ++ List.replicate m 0)) (hg : g < G) (hp : done.length = p) (hN : p + m = N) (hb : N ≤ 1048576) (hk : 6 ≤ m) :
    Calls Tryd.prog 112 #[.pointer (some ⟨g, 0, none⟩), .int .i64 v, .int .i64 6] w fun e w' => e = .returned (.tuple #[]) ∧ Cur w' g (.slice (some ⟨G, 0, none⟩) N N) (p + 6) .nilIface ∧ RowB w' G ((done ++ putL v 6) ++ List.replicate (m - 6) 0) ∧ Below g w w' :=
  put_fill g G N p m 6 v done w hc hr hg hp hN hb hk (by omega) (by omega)
theorem put_fill2 (g G N p m : Nat) (v : Int) (done : List Int) (w : World) (hc : Cur w g (.slice (some ⟨G, 0, none⟩) N N) p .nilIface) (hr : RowB w G (done ++ List.replicate m 0)) (hg : g < G) (hp : done.length = p) (hN : p + m = N) (hb : N ≤ 1048576) (hk : 2 ≤ m) :
    Calls Tryd.prog 112 #[.pointer (some ⟨g, 0, none⟩), .int .i64 v, .int .i64 2] w fun e w' => e = .returned (.tuple #[]) ∧ Cur w' g (.slice (some ⟨G, 0, none⟩) N N) (p + 2) .nilIface ∧ RowB w' G ((done ++ putL v 2) ++ List.replicate (m - 2) 0) ∧ Below g w w' :=
  put_fill g G N p m 2 v done w hc hr hg hp hN hb hk (by omega) (by omega)
theorem put_fill4 (g G N p m : Nat) (v : Int) (done : List Int) (w : World) (hc : Cur w g (.slice (some ⟨G, 0, none⟩) N N) p .nilIface) (hr : RowB w G (done ++ List.replicate m 0)) (hg : g < G) (hp : done.length = p) (hN : p + m = N) (hb : N ≤ 1048576) (hk : 4 ≤ m) :
    Calls Tryd.prog 112 #[.pointer (some ⟨g, 0, none⟩), .int .i64 v, .int .i64 4] w fun e w' => e = .returned (.tuple #[]) ∧ Cur w' g (.slice (some ⟨G, 0, none⟩) N N) (p + 4) .nilIface ∧ RowB w' G ((done ++ putL v 4) ++ List.replicate (m - 4) 0) ∧ Below g w w' :=
  put_fill g G N p m 4 v done w hc hr hg hp hN hb hk (by omega) (by omega)
theorem tk6 (g p n cap b off : Nat) (zs : List Int) (w : World) (hc : Cur w g (.slice (some ⟨b, off, none⟩) n cap) p .nilIface) (hn : n ≤ 1048576) (hk : p + 6 ≤ n) (hcap : n ≤ cap) (hz : zs.length = n) (ha : Arr w (some ⟨b, off, none⟩) zs) (hb : b ≠ g) :
    Calls Tryd.prog 43 #[.pointer (some ⟨g, 0, none⟩), .int .i64 6] w fun e w' => e = .returned (.int .i64 (tnum ((zs.drop p).take 6))) ∧ Cur w' g (.slice (some ⟨b, off, none⟩) n cap) (p + 6) .nilIface ∧ w.grownBy w' (some g) :=
  take_ok g p n cap b off 6 zs w hc hn hk (by omega) hcap hz ha hb (by omega)
theorem tk2 (g p n cap b off : Nat) (zs : List Int) (w : World) (hc : Cur w g (.slice (some ⟨b, off, none⟩) n cap) p .nilIface) (hn : n ≤ 1048576) (hk : p + 2 ≤ n) (hcap : n ≤ cap) (hz : zs.length = n) (ha : Arr w (some ⟨b, off, none⟩) zs) (hb : b ≠ g) :
    Calls Tryd.prog 43 #[.pointer (some ⟨g, 0, none⟩), .int .i64 2] w fun e w' => e = .returned (.int .i64 (tnum ((zs.drop p).take 2))) ∧ Cur w' g (.slice (some ⟨b, off, none⟩) n cap) (p + 2) .nilIface ∧ w.grownBy w' (some g) :=
  take_ok g p n cap b off 2 zs w hc hn hk (by omega) hcap hz ha hb (by omega)
theorem tk4 (g p n cap b off : Nat) (zs : List Int) (w : World) (hc : Cur w g (.slice (some ⟨b, off, none⟩) n cap) p .nilIface) (hn : n ≤ 1048576) (hk : p + 4 ≤ n) (hcap : n ≤ cap) (hz : zs.length = n) (ha : Arr w (some ⟨b, off, none⟩) zs) (hb : b ≠ g) :
    Calls Tryd.prog 43 #[.pointer (some ⟨g, 0, none⟩), .int .i64 4] w fun e w' => e = .returned (.int .i64 (tnum ((zs.drop p).take 4))) ∧ Cur w' g (.slice (some ⟨b, off, none⟩) n cap) (p + 4) .nilIface ∧ w.grownBy w' (some g) :=
  take_ok g p n cap b off 4 zs w hc hn hk (by omega) hcap hz ha hb (by omega)
end Go.Proofs.YtcnfnimgpiaamaaDoor
