/-
Contracts of functions of this seat.
-/
import Derived.Test.YtgegnkboibgbgaaRows
import Derived.WalkKit
import Derived.ProofKit
import Derived.OpenShut
import Derived.Test.YtgegnkboibgbgaaRr3
import Derived.Shelf.Strings.Search1
import Derived.Shelf.Strings.Search2
import Derived.Shelf.Strings.Cut
import Derived.Shelf.LaysM
import Derived.Shelf.Strings.Shaped
import Derived.Shelf.Strings.FieldsFuncAny
namespace Go.Proofs.Ytgegnkboibgbgaa
open Go.ChangeShapes Go.WideShapes Go.ChangeAt Go.RowKit
set_option linter.unusedVariables false
set_option maxRecDepth 100000
def Try.lays229_ren : Go.Shelf.Ren := ⟨fun | 229 => 73 | n => n, fun | 9 => 9 | 40 => 99 | 31 => 35 | 152 => 107 | 3 => 3 | 0 => 0 | 4 => 4 | 21 => 21 | 154 => 109 | n => n, fun | n => n⟩
theorem Try.lays229 : Go.Proofs.Lays.n229 Try.prog Try.lays229_ren := {
  mixed := by kernel_rfl
  f229 := Try.func73.trans (congrArg some (by kernel_rfl))
  t0 := Try.underlying0
  a0 := Try.isAgg0
  z0 := Try.sizeOf0
  v0 := Try.zeroValue0
  t3 := Try.underlying3
  a3 := Try.isAgg3
  z3 := Try.sizeOf3
  v3 := Try.zeroValue3
  t4 := Try.underlying4
  a4 := Try.isAgg4
  z4 := Try.sizeOf4
  v4 := Try.zeroValue4
  t9 := Try.underlying9
  a9 := Try.isAgg9
  z9 := Try.sizeOf9
  v9 := Try.zeroValue9
  t21 := Try.underlying21
  a21 := Try.isAgg21
  z21 := Try.sizeOf21
  v21 := Try.zeroValue21
  t31 := Try.underlying35
  a31 := Try.isAgg35
  z31 := Try.sizeOf35
  v31 := Try.zeroValue35
  t40 := Try.underlying99
  a40 := Try.isAgg99
  z40 := Try.sizeOf99
  v40 := Try.zeroValue99
  t152 := Try.underlying107
  a152 := Try.isAgg107
  z152 := Try.sizeOf107
  v152 := Try.zeroValue107
  t154 := Try.underlying109
  a154 := Try.isAgg109
  z154 := Try.sizeOf109
  v154 := Try.zeroValue109 }

/-- A blank: what parts the words of a line. -/
def blR (x : Nat) : Bool := decide (x = 32) || decide (x = 9)
set_option maxHeartbeats 1000000 in
theorem isBlank_at (w : World) : PredAt Try.prog 74 #[] encR blR w := by
  intro W x _
  unfold FnGives
  unfold encR
  by_cases h1 : x = 32
  · subst h1
    go_enter Try.func74, Try.ntmps74
    go_wp2_with fail
    go_ret
    exact ⟨rfl, 0, rfl⟩
  · by_cases h2 : x = 9
    · subst h2
      go_enter Try.func74, Try.ntmps74
      go_wp2_with fail
      go_ret
      exact ⟨rfl, 0, rfl⟩
    · have hb : blR x = false := by simp [blR, h1, h2]
      have e1 : ((x : Int) == 32) = false := by simp; omega
      have e2 : ((x : Int) == 9) = false := by simp; omega
      rw [hb]
      clear h1 h2 hb
      go_enter Try.func74, Try.ntmps74
      go_wp2_with fail
      go_ret
      exact ⟨rfl, 0, rfl⟩
theorem fieldsFunc_walk (s : ByteArray) (w : World) (hs : s.size ≤ 4294967296) :
    Calls Try.prog 73 #[.string s, .func (.func 74) #[] #[]] w fun e w' => ∃ A, e = .returned (.slice (some ⟨A, 0, none⟩) (Lib.goFieldsP blR s).length (Lib.goFieldsP blR s).length) ∧ w.heap.size ≤ A ∧
      w'.ownsRow w.heap.size 9 1 (.slice (some ⟨A, 0, none⟩) (Lib.goFieldsP blR s).length (Lib.goFieldsP blR s).length) (Lib.goFieldsP blR s).length ((Lib.goFieldsP blR s).map Value.string) ∧ Below w.heap.size w w' :=
  Any.strings_FieldsFunc Try.lays229 74 #[] (enters_of Try.func74 (by kernel_rfl) rfl) blR s w hs (isBlank_at w) (by kernel_rfl) (by kernel_rfl)
/-- What is ahead of the first such byte; what is behind it. -/
def upTo (c : UInt8) (l : List UInt8) : List UInt8 := l.takeWhile (· != c)
def past (c : UInt8) (l : List UInt8) : List UInt8 := (l.dropWhile (· != c)).tail
theorem upTo_no (c : UInt8) (l : List UInt8) (h : c ∉ l) : upTo c l = l ∧ past c l = [] := by
  unfold upTo past
  induction l with
  | nil => exact ⟨rfl, rfl⟩
  | cons x r ih =>
    have hx : (x != c) = true := by
      simp only [List.mem_cons, not_or] at h
      exact bne_iff_ne.2 (fun e => h.1 e.symm)
    obtain ⟨h1, h2⟩ := ih (fun hm => h (List.mem_cons_of_mem _ hm))
    rw [List.takeWhile_cons, List.dropWhile_cons, if_pos hx, if_pos hx, h1, h2]
    exact ⟨rfl, rfl⟩
theorem upTo_yes (c : UInt8) (a b : List UInt8) (h : c ∉ a) : upTo c (a ++ c :: b) = a ∧ past c (a ++ c :: b) = b := by
  unfold upTo past
  induction a with
  | nil => exact ⟨by simp, by simp⟩
  | cons x r ih =>
    have hx : (x != c) = true := by
      simp only [List.mem_cons, not_or] at h
      exact bne_iff_ne.2 (fun e => h.1 e.symm)
    obtain ⟨h1, h2⟩ := ih (fun hm => h (List.mem_cons_of_mem _ hm))
    rw [List.cons_append, List.takeWhile_cons, List.dropWhile_cons, if_pos hx, if_pos hx, h1, h2]
    exact ⟨rfl, rfl⟩
theorem upTo_len (c : UInt8) (l : List UInt8) : (upTo c l).length ≤ l.length := by
  unfold upTo
  exact (List.takeWhile_sublist _).length_le
theorem past_len (c : UInt8) (l : List UInt8) : (past c l).length ≤ l.length - 1 := by
  unfold past
  have := (List.dropWhile_sublist (l := l) (· != c)).length_le
  rw [List.length_tail]
  omega
theorem cut_any (c : UInt8) (l : List UInt8) (w : World) (hl : l.length ≤ 1048576) :
    Calls Try.prog 55 #[.string (bs l), .string (bs [c])] w fun e w' => ∃ m, e = .returned (.tuple #[.string (bs (upTo c l)), .string (bs (past c l)), .bool m]) ∧ Below w.heap.size w w' := by
  by_cases hm : c ∈ l
  · obtain ⟨a, b, rfl, hna⟩ := List.eq_append_cons_of_mem hm
    rw [(upTo_yes c a b hna).1, (upTo_yes c a b hna).2]
    exact (cut_yes a b c w hl hna).mono fun e w' h => ⟨true, h⟩
  · rw [(upTo_no c l hm).1, (upTo_no c l hm).2]
    exact (cut_no l c w hm).mono fun e w' h => ⟨false, h⟩
/-- A line's words. -/
def wordsL (l : List UInt8) : List (List UInt8) := (Lib.goFieldsP blR (bs (upTo 35 l))).map fun b => b.data.toList
theorem wordsL_len (l : List UInt8) : (Lib.goFieldsP blR (bs (upTo 35 l))).length = (wordsL l).length := by unfold wordsL; rw [List.length_map]
theorem bs_back (b : ByteArray) : bs b.data.toList = b := by cases b; simp [bs]
theorem own_words {w : World} {B A : Nat} {bb : List ByteArray} {ps : List (List UInt8)} (he : ps = bb.map fun b => b.data.toList) (h : w.ownsRow B 9 1 (.slice (some ⟨A, 0, none⟩) bb.length bb.length) bb.length (bb.map Value.string)) : ArrS w (some ⟨A, 0, none⟩) ps := by
  subst he
  intro j hj
  rw [List.length_map] at hj
  refine ⟨A, 0, rfl, ?_, ?_⟩
  · have hc := h.cellAt j (by omega)
    rw [List.getElem?_map, List.getElem?_eq_getElem hj] at hc
    exact World.block_lt_of_cell? w ⟨A, j, none⟩ hc
  · have hc := h.cellAt j (by omega)
    rw [List.getElem?_map, List.getElem?_eq_getElem hj] at hc
    rw [Nat.zero_add, hc, List.getElem_map, bs_back]
    rfl
set_option maxHeartbeats 1000000 in
theorem wordsOf_walk (l : List UInt8) (w : World) (hl : l.length ≤ 1048576) :
    Calls Try.prog 56 #[.string (bs l)] w fun e w' => ∃ A, e = .returned (.slice (some ⟨A, 0, none⟩) (wordsL l).length (wordsL l).length) ∧ ArrS w' (some ⟨A, 0, none⟩) (wordsL l) ∧ w.heap.size ≤ A ∧ Below w.heap.size w w' := by
  have CC := hide (fun W => cut_any 35 l W hl)
  have HF : Hid (∀ W, Calls Try.prog 73 #[.string (bs (upTo 35 l)), .func (.func 74) #[] #[]] W fun e w' => ∃ A, e = .returned (.slice (some ⟨A, 0, none⟩) (wordsL l).length (wordsL l).length) ∧ ArrS w' (some ⟨A, 0, none⟩) (wordsL l) ∧ W.heap.size ≤ A ∧ Below W.heap.size W w') := hide (fun W => (fieldsFunc_walk (bs (upTo 35 l)) W (by rw [bs_size]; have := upTo_len 35 l; omega)).mono (by
    rintro e w' ⟨A, rfl, hA, ho, hb⟩
    exact ⟨A, by rw [wordsL_len], own_words rfl ho, hA, hb⟩))
  generalize upTo 35 l = u at *
  generalize past 35 l = v at *
  generalize wordsL l = ws at *
  go_enter Try.func56, Try.ntmps56
  go_wp2_with fail
  refine (CC.out _).mono ?_
  rintro e w1 ⟨m, rfl, hb1⟩
  have HB1 := hide hb1
  clear hb1 CC
  go_wp2_with fail
  refine (HF.out _).mono ?_
  rintro e w2 ⟨A, rfl, hs2, hA, hb2⟩
  have HR := hide (show ArrS w2 (some ⟨A, 0, none⟩) ws ∧ w.heap.size ≤ A ∧ Below w.heap.size w w2 from ⟨hs2, Nat.le_trans HB1.out.size hA, HB1.out.trans (hb2.mono HB1.out.size)⟩)
  clear hs2 hA hb2 HB1 HF
  go_wp2_with fail
  go_ret
  exact ⟨A, rfl, HR.out⟩
end Go.Proofs.Ytgegnkboibgbgaa
