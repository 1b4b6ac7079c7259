/-
Contracts of functions of this seat.
-/
import Derived.Test.YtmgjagajcmeikalDoorRows
import Derived.WalkKit
import Derived.ProofKit
import Derived.OpenShut
import Derived.Test.YtmgjagajcmeikalDoorPre
import Derived.Test.YtmgjagajcmeikalDoorRp
namespace Go.Proofs.YtmgjagajcmeikalDoor
open Go.ChangeShapes Go.WideShapes Go.ChangeAt Go.RowKit
set_option linter.unusedVariables false
def joinL (c : UInt8) : List (List UInt8) → List UInt8
  | [] => []
  | [a] => a
  | a :: b :: r => a ++ c :: joinL c (b :: r)
theorem join_cons (c x : UInt8) (p : List UInt8) (r : List (List UInt8)) : joinL c ((x :: p) :: r) = x :: joinL c (p :: r) := by
  cases r <;> rfl
theorem join_split (c : UInt8) : ∀ l : List UInt8, joinL c (splitL c l) = l
  | [] => rfl
  | x :: xs => by
    have ih := join_split c xs
    rw [splitL]
    match h : splitL c xs, split_ne c xs with
    | p :: r, _ =>
      rw [h] at ih
      split
      · rename_i e
        subst e
        show [] ++ x :: joinL x (p :: r) = x :: xs
        rw [ih]; rfl
      · rw [List.headD_cons, List.tail_cons, join_cons, ih]
theorem part_dec {p : List UInt8} (h : numOK p 255 = true) : (decL (numV p)).toList = p := by
  have hl := numOK_len h
  unfold numOK at h
  simp only [Bool.and_eq_true, Bool.not_eq_true'] at h
  have hd := dec_digits p (by intro e; subst e; simp at hl) hl.2.1 h.1.2
  rw [h.1.1.2] at hd
  simpa using hd.2.2
theorem part_dec32 {p : List UInt8} (h : numOK p 32 = true) : (decL (numV p)).toList = p ∧ 0 ≤ numV p ∧ numV p ≤ 32 := by
  have h2 : numOK p 255 = true := by
    unfold numOK at h ⊢
    simp only [Bool.and_eq_true, decide_eq_true_eq] at h ⊢
    exact ⟨h.1, by omega⟩
  have h3 := numOK_len h2
  refine ⟨part_dec h2, h3.2.2.1, ?_⟩
  unfold numOK at h
  simp only [Bool.and_eq_true, decide_eq_true_eq] at h
  exact h.2
theorem dec_toList (l : List UInt8) (n : Int) (h : (decL n).toList = l) : (⟨decL n⟩ : ByteArray) = bs l := by
  subst h; unfold bs; simp
theorem show_read {l : List UInt8} (h : adOK l = true) : showA (adX l) = bs l := by
  have hj := join_split 46 l
  rw [adX_yes h]
  unfold adOK at h
  simp only [Bool.and_eq_true, decide_eq_true_eq, List.all_eq_true] at h
  obtain ⟨h4, ha⟩ := h
  match hp : splitL 46 l, h4, ha with
  | [a, b, c, d], _, ha =>
    rw [hp] at hj
    have ka := ha a (by simp)
    have kb := ha b (by simp)
    have kc := ha c (by simp)
    have kd := ha d (by simp)
    have na := (numOK_len ka).2.2
    have nb := (numOK_len kb).2.2
    have nc := (numOK_len kc).2.2
    have nd := (numOK_len kd).2.2
    have e : adFold [a, b, c, d] = ((numV a * 256 + numV b) * 256 + numV c) * 256 + numV d := by unfold adFold; simp
    rw [e]
    unfold showA
    rw [show (((numV a * 256 + numV b) * 256 + numV c) * 256 + numV d) / 16777216 = numV a by omega, show (((numV a * 256 + numV b) * 256 + numV c) * 256 + numV d) / 65536 % 256 = numV b by omega, show (((numV a * 256 + numV b) * 256 + numV c) * 256 + numV d) / 256 % 256 = numV c by omega, show (((numV a * 256 + numV b) * 256 + numV c) * 256 + numV d) % 256 = numV d by omega]
    have pa := part_dec ka
    have pb := part_dec kb
    have pc := part_dec kc
    have pd := part_dec kd
    rw [← hj]
    simp only [joinL]
    apply ByteArray.ext
    apply Array.ext'
    unfold bs
    simp [ByteArray.data_append, pa, pb, pc, pd]
theorem showP_read {l : List UInt8} (h : pfOK l = true) : showP (pfA l) (pfB l) = bs l := by
  have h' := h
  unfold pfOK at h
  split at h
  · rename_i a b e
    simp only [Bool.and_eq_true] at h
    obtain ⟨p1, p2, _⟩ := pf_yes e h'
    have hj := join_split 47 l
    rw [e] at hj
    rw [p1, p2]
    unfold showP
    rw [show_read h.1.1, ← hj]
    have pb := (part_dec32 h.1.2).1
    apply ByteArray.ext
    apply Array.ext'
    unfold bs
    simp [ByteArray.data_append, joinL, pb]
  · cases h
theorem dec_fin : ∀ n : Fin 256, numOK (decL (n.val : Int)).toList 255 = true ∧ numV (decL (n.val : Int)).toList = (n.val : Int) ∧ (46 : UInt8) ∉ (decL (n.val : Int)).toList := by decide +kernel
theorem dec_part {n : Int} (h0 : 0 ≤ n) (h1 : n ≤ 255) : numOK (decL n).toList 255 = true ∧ numV (decL n).toList = n ∧ (46 : UInt8) ∉ (decL n).toList := by
  obtain ⟨k, rfl⟩ := Int.eq_ofNat_of_zero_le h0
  exact dec_fin ⟨k, by omega⟩
theorem adU_split (a : Int) : splitL 46 (adU a) = [(decL (byteOf a 4 0)).toList, (decL (byteOf a 4 1)).toList, (decL (byteOf a 4 2)).toList, (decL (byteOf a 4 3)).toList] := by
  have b0 := byteOf_bd a 4 0
  have b1 := byteOf_bd a 4 1
  have b2 := byteOf_bd a 4 2
  have b3 := byteOf_bd a 4 3
  unfold adU
  rw [split_yes 46 _ _ (dec_part b0.1 b0.2).2.2, split_yes 46 _ _ (dec_part b1.1 b1.2).2.2, split_yes 46 _ _ (dec_part b2.1 b2.2).2.2, split_no 46 _ (dec_part b3.1 b3.2).2.2]
theorem adU_ok (a : Int) : adOK (adU a) = true := by
  have b0 := byteOf_bd a 4 0
  have b1 := byteOf_bd a 4 1
  have b2 := byteOf_bd a 4 2
  have b3 := byteOf_bd a 4 3
  unfold adOK
  rw [adU_split a]
  simp [okP, dec_part b0.1 b0.2, dec_part b1.1 b1.2, dec_part b2.1 b2.2, dec_part b3.1 b3.2]
theorem adU_val {a : Int} (h : adrB a = true) : adX (adU a) = a := by
  obtain ⟨h0, h1⟩ := adrB_iff.1 h
  have b0 := byteOf_bd a 4 0
  have b1 := byteOf_bd a 4 1
  have b2 := byteOf_bd a 4 2
  have b3 := byteOf_bd a 4 3
  rw [adX_yes (adU_ok a), adU_split a]
  unfold adFold
  simp only [List.foldl_cons, List.foldl_nil, (dec_part b0.1 b0.2).2.1, (dec_part b1.1 b1.2).2.1, (dec_part b2.1 b2.2).2.1, (dec_part b3.1 b3.2).2.1]
  have e0 : byteOf a 4 0 = a / 16777216 := by unfold byteOf; show a / 16777216 % 256 = _; omega
  have e1 : byteOf a 4 1 = a / 65536 % 256 := rfl
  have e2 : byteOf a 4 2 = a / 256 % 256 := rfl
  have e3 : byteOf a 4 3 = a % 256 := by unfold byteOf; show a / 1 % 256 = _; omega
  rw [e0, e1, e2, e3]
  omega
end Go.Proofs.YtmgjagajcmeikalDoor
