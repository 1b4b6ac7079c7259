/-
Contracts of functions of this seat.
-/
import Derived.Test.YtmgjagajcmeikalDoorRows
import Derived.WalkKit
import Derived.ProofKit
import Derived.OpenShut
import Derived.Test.YtmgjagajcmeikalDoorShm
namespace Go.Proofs.YtmgjagajcmeikalDoor
open Go.ChangeShapes Go.WideShapes Go.ChangeAt Go.RowKit
set_option linter.unusedVariables false
/-- A small digit's byte as a capital's. -/
def upZ (z : Int) : Int := if 97 ≤ z ∧ z ≤ 102 then z - 32 else z
def upB (b : UInt8) : UInt8 := if 97 ≤ b.toNat ∧ b.toNat ≤ 102 then UInt8.ofNat (b.toNat - 32) else b
theorem upB_nat (b : UInt8) : ((upB b).toNat : Int) = upZ (b.toNat : Int) := by
  unfold upB upZ
  have := b.toNat_lt
  split
  · rename_i h
    rw [if_pos (by omega), UInt8.toNat_ofNat']
    omega
  · rename_i h
    rw [if_neg (by omega)]
def macUp (m : Int) : List UInt8 := (macU m).map upB
theorem up_fin : ∀ q : Fin 16, hexv ((upB (hxb q.val)).toNat : Int) = (q.val : Int) := by decide +kernel
theorem up_dig (q : Nat) (h : q < 16) : hexv ((upB (hxb q)).toNat : Int) = (q : Int) := up_fin ⟨q, h⟩
theorem macUp_size (m : Int) : (bs (macUp m)).size = 17 := by rw [bs_size]; rfl
theorem macUp_ok (m : Int) : allOK (bs (macUp m)) := by
  intro i hi
  have h (k : Nat) := up_dig (hiN m k) (hiN_lt m k)
  have l (k : Nat) := up_dig (loN m k) (loN_lt m k)
  have d {x : Int} {q : Nat} (e : x = (q : Int)) : decide (0 ≤ x) = true := by rw [e]; simp
  match i, hi with
  | 0, _ => exact d (h 0)
  | 1, _ => exact d (l 0)
  | 2, _ => rfl
  | 3, _ => exact d (h 1)
  | 4, _ => exact d (l 1)
  | 5, _ => rfl
  | 6, _ => exact d (h 2)
  | 7, _ => exact d (l 2)
  | 8, _ => rfl
  | 9, _ => exact d (h 3)
  | 10, _ => exact d (l 3)
  | 11, _ => rfl
  | 12, _ => exact d (h 4)
  | 13, _ => exact d (l 4)
  | 14, _ => rfl
  | 15, _ => exact d (h 5)
  | 16, _ => exact d (l 5)
  | n + 17, h => exact absurd h (by omega)
theorem mval17 (s : ByteArray) : mval s 17 = (((((((((((hexv (ch s 0) * 16 + hexv (ch s 1)) * 16 + hexv (ch s 3)) * 16 + hexv (ch s 4)) * 16 + hexv (ch s 6)) * 16 + hexv (ch s 7)) * 16 + hexv (ch s 9)) * 16 + hexv (ch s 10)) * 16 + hexv (ch s 12)) * 16 + hexv (ch s 13)) * 16 + hexv (ch s 15)) * 16 + hexv (ch s 16)) := by
  simp [mval]
theorem macUp_val {m : Int} (hm : macOKB m = true) : mval (bs (macUp m)) 17 = m := by
  obtain ⟨h0, h1⟩ := macOKB_iff.1 hm
  rw [mval17]
  have h (k : Nat) := up_dig (hiN m k) (hiN_lt m k)
  have l (k : Nat) := up_dig (loN m k) (loN_lt m k)
  rw [show hexv (ch (bs (macUp m)) 0) = _ from h 0, show hexv (ch (bs (macUp m)) 1) = _ from l 0, show hexv (ch (bs (macUp m)) 3) = _ from h 1, show hexv (ch (bs (macUp m)) 4) = _ from l 1, show hexv (ch (bs (macUp m)) 6) = _ from h 2, show hexv (ch (bs (macUp m)) 7) = _ from l 2, show hexv (ch (bs (macUp m)) 9) = _ from h 3, show hexv (ch (bs (macUp m)) 10) = _ from l 3, show hexv (ch (bs (macUp m)) 12) = _ from h 4, show hexv (ch (bs (macUp m)) 13) = _ from l 4, show hexv (ch (bs (macUp m)) 15) = _ from h 5, show hexv (ch (bs (macUp m)) 16) = _ from l 5]
  have e (k : Nat) : (hiN m k : Int) * 16 + (loN m k : Int) = byteOf m 6 k := by
    have := byteOf_bd m 6 k
    unfold hiN loN
    omega
  have b0 : byteOf m 6 0 = m / 1099511627776 % 256 := rfl
  have b1 : byteOf m 6 1 = m / 4294967296 % 256 := rfl
  have b2 : byteOf m 6 2 = m / 16777216 % 256 := rfl
  have b3 : byteOf m 6 3 = m / 65536 % 256 := rfl
  have b4 : byteOf m 6 4 = m / 256 % 256 := rfl
  have b5 : byteOf m 6 5 = m % 256 := by unfold byteOf; show m / 1 % 256 = _; omega
  have e0 := e 0
  have e1 := e 1
  have e2 := e 2
  have e3 := e 3
  have e4 := e 4
  have e5 := e 5
  omega
/-- Some numbers as they are behind i rounds. -/
def uz (zs : List Int) (i : Nat) : List Int := (zs.take i).map upZ ++ zs.drop i
theorem uz_len (zs : List Int) (i : Nat) : (uz zs i).length = zs.length := by unfold uz; simp; omega
theorem uz_get (zs : List Int) (i : Nat) (h : i < zs.length) : (uz zs i).getD i 0 = zs.getD i 0 := by
  unfold uz
  rw [List.getD_eq_getElem?_getD, List.getElem?_append_right (by simp; omega), List.length_map, List.length_take, Nat.min_eq_left (by omega), Nat.sub_self, List.getElem?_drop, Nat.add_zero, ← List.getD_eq_getElem?_getD]
theorem uz_set (zs : List Int) (i : Nat) (h : i < zs.length) : (uz zs i).set i (upZ (zs.getD i 0)) = uz zs (i + 1) := by
  unfold uz
  rw [List.set_append_right _ _ (by simp; omega), List.length_map, List.length_take, Nat.min_eq_left (by omega), Nat.sub_self, List.take_succ_eq_append_getElem h, List.map_append, List.append_assoc, List.drop_eq_getElem_cons h, List.set_cons_zero]
  congr 1
  rw [List.getD_eq_getElem?_getD, List.getElem?_eq_getElem h]
  rfl
theorem uz_same (zs : List Int) (i : Nat) (h : i < zs.length) (hz : upZ (zs.getD i 0) = zs.getD i 0) : uz zs (i + 1) = uz zs i := by
  rw [← uz_set zs i h, hz]
  have hl : i < (uz zs i).length := by rw [uz_len]; exact h
  have hg := uz_get zs i h
  rw [List.getD_eq_getElem?_getD, List.getElem?_eq_getElem hl] at hg
  rw [← hg]
  exact List.set_getElem_self hl
/-- The bytes ys lie in a block laid behind w0. -/
def RowZ (w0 w : World) (ys : List Int) : Prop := Below w0.heap.size w0 w ∧ w0.heap.size < w.heap.size ∧ ∀ j, j < ys.length → w.cell? ⟨w0.heap.size, j, none⟩ = some (.int .u8 (ys.getD j 0)) ∧ w.frozen? ⟨w0.heap.size, j, none⟩ = false
theorem RowZ.store {w0 w : World} {ys : List Int} (h : RowZ w0 w ys) (j : Nat) (z : Int) (hj : j < ys.length) : RowZ w0 (w.setCell ⟨w0.heap.size, j, none⟩ (.int .u8 z)) (ys.set j z) := by
  refine ⟨h.1.setCell (p := ⟨w0.heap.size, j, none⟩) (Nat.le_refl _) _, by simpa using h.2.1, fun i hi => ?_⟩
  rw [List.length_set] at hi
  obtain ⟨c, f⟩ := h.2.2 i hi
  refine ⟨?_, ?_⟩
  · by_cases e : j = i
    · subst e
      rw [World.cell?_setCell_same _ _ _ c, List.getD_eq_getElem?_getD, List.getElem?_set_self hj]; rfl
    · rw [World.cell?_setCell_other _ _ _ _ (by intro h; simp only [Addr.mk.injEq] at h; omega), c, List.getD_eq_getElem?_getD, List.getD_eq_getElem?_getD, List.getElem?_set_ne e]
  · rw [World.frozen?_setCell]; exact f
theorem conv_row (w : World) (l : List UInt8) : ∃ W cap, (convert 9 22 (.string (bs l))).run Tryd.prog w = .ok (.slice (some ⟨w.heap.size, 0, none⟩) l.length cap) W ∧ RowZ w W (l.map (fun b => (b.toNat : Int))) := by
  have h := run_bytes_of_string (P := Tryd.prog) w 9 22 5 (bs l) Tryd.underlying9 Tryd.underlying22 Tryd.underlying5
  rw [bs_size] at h
  refine ⟨_, _, h, ?_⟩
  generalize grownCap w l.length 0 5 = cap
  have hg := heap_alloc_new w.drew (.cells (bytesRow (bs l) cap) 5 ((bytesRow (bs l) cap).size, (bytesRow (bs l) cap).size + 1))
  have hsz : (bytesRow (bs l) cap).size = l.length + (cap - l.length) := by
    unfold bytesRow
    rw [Array.size_append, Array.size_map, Array.size_replicate, bs_size]
    congr 1
  refine ⟨((Below.refl w.heap.size w).drew).alloc (Nat.le_refl _) _, by rw [World.size_alloc]; show w.heap.size < w.heap.size + 1; omega, fun j hj => ?_⟩
  rw [List.length_map] at hj
  refine ⟨?_, ?_⟩
  · refine (cell_of_row _ w.heap.size j _ _ _ hg).trans ?_
    unfold bytesRow
    rw [Array.getElem?_append_left (by rw [Array.size_map]; exact hj), Array.getElem?_map]
    have e : (bs l).data[j]? = some l[j] := by unfold bs; simp [hj]
    rw [e, List.getD_eq_getElem?_getD, List.getElem?_map, List.getElem?_eq_getElem hj]
    rfl
  · have hg' : (World.alloc w.drew (.cells (bytesRow (bs l) cap) 5 ((bytesRow (bs l) cap).size, (bytesRow (bs l) cap).size + 1))).heap[w.heap.size]? = _ := hg
    simp only [World.frozen?, hg']
    simp
    omega
end Go.Proofs.YtmgjagajcmeikalDoor
