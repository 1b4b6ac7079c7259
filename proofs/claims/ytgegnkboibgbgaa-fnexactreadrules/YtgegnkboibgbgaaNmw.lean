/-
Contracts of functions of this seat.
-/
import Derived.Test.YtgegnkboibgbgaaRows
import Derived.WalkKit
import Derived.ProofKit
import Derived.OpenShut
import Derived.Test.YtgegnkboibgbgaaRum
namespace Go.Proofs.Ytgegnkboibgbgaa
open Go.ChangeShapes Go.WideShapes Go.ChangeAt Go.RowKit
set_option linter.unusedVariables false
set_option maxRecDepth 100000
/-- A row of words that stand for numbers, in memory. -/
def Lst (w : World) (g off : Nat) (L : List (ByteArray × Int)) : Prop := ∀ k, k < L.length → w.cell? ⟨g, off + k * 2, none⟩ = some (.string (L.getD k (⟨#[]⟩, 0)).1) ∧ w.cell? ⟨g, off + k * 2 + 1, none⟩ = some (.int .i64 (L.getD k (⟨#[]⟩, 0)).2)
theorem Lst.below {w w' : World} {g off B : Nat} {L : List (ByteArray × Int)} (h : Lst w g off L) (hb : Below B w w') (hg : g < B) : Lst w' g off L := fun k hk => ⟨(hb.cell (p := ⟨g, off + k * 2, none⟩) hg).trans (h k hk).1, (hb.cell (p := ⟨g, off + k * 2 + 1, none⟩) hg).trans (h k hk).2⟩
def wordL : List (ByteArray × Int) → Int → ByteArray
  | [], _ => ⟨#[]⟩
  | (s, n) :: r, x => if n = x then s else wordL r x
theorem wordL_at {L : List (ByteArray × Int)} {k : Nat} (hk : k < L.length) (x : Int) : wordL (L.drop k) x = if (L.getD k (⟨#[]⟩, 0)).2 = x then (L.getD k (⟨#[]⟩, 0)).1 else wordL (L.drop (k + 1)) x := by
  rw [List.drop_eq_getElem_cons hk, List.getD_eq_getElem?_getD, List.getElem?_eq_getElem hk]
  rfl
set_option maxHeartbeats 2000000 in
theorem wordOf_walk (g off n : Nat) (L : List (ByteArray × Int)) (x : Int) (w : World) (hn : L.length = n) (hm : n ≤ 1000) (h : Lst w g off L) (hg : g < w.heap.size) :
    Calls Try.prog 79 #[.slice (some ⟨g, off, none⟩) n n, .int .i64 x] w fun e w' => e = .returned (.string (wordL L x)) ∧ Below w.heap.size w w' := by
  have HL := hide h
  have HN := hide hn
  have HG := hide hg
  clear h hn hg
  go_enter Try.func79, Try.ntmps79
  go_wp2_with fail
  go_loopw [9] (fun t w2 => ∃ k : Nat, k ≤ n ∧ t = .int .i64 k ∧ Hid (Below w.heap.size w w2) ∧ Hid (wordL L x = wordL (L.drop k) x)) (fun t _ => n - (intOf t).toNat)
  case atStart => exact ⟨0, Nat.zero_le _, rfl, hide (Below.refl _ _), hide rfl⟩
  case round =>
    obtain ⟨k, hk, rfl, HB, HE⟩ := hrel
    by_cases hlt : k < n
    · obtain ⟨c0, c1⟩ := (HL.out.below HB.out HG.out) k (by rw [HN.out]; exact hlt)
      have HS := hide (wordL_at (L := L) (k := k) (by rw [HN.out]; exact hlt) x)
      generalize (L.getD k (⟨#[]⟩, 0)).1 = s at *
      generalize (L.getD k (⟨#[]⟩, 0)).2 = y at *
      have HB2 : Hid (Below w.heap.size w (wr.alloc (.cells #[.string s, .int .i64 y] 94))) := hide (HB.out.alloc HB.out.size _)
      by_cases hy : y = x
      · have E : Hid (wordL L x = s) := hide (by rw [HE.out, HS.out, if_pos hy])
        subst hy
        go_wp2_with fail
        go_ret
        exact ⟨by rw [E.out]; rfl, HB2.out⟩
      · have E : Hid (wordL L x = wordL (L.drop (k + 1)) x) := hide (by rw [HE.out, HS.out, if_neg hy])
        have hyb : (y == x) = false := beq_eq_false_iff_ne.2 hy
        clear hy
        go_wp2_with fail
        exact ⟨⟨k + 1, by omega, by go_num, HB2, E⟩, by simp [intOf]; omega⟩
    · have hkn : k = n := by omega
      subst hkn
      have E : Hid (wordL L x = ⟨#[]⟩) := hide (by rw [HE.out, List.drop_eq_nil_of_le (by rw [HN.out]; exact Nat.le_refl _)]; rfl)
      go_wp2_with fail
      go_ret
      exact ⟨by rw [E.out]; rfl, HB.out⟩

/-- A list of words at a world's end. -/
def LstN (w w' : World) (L : List (ByteArray × Int)) : Prop := Lst w' w.heap.size 0 L ∧ w.heap.size < w'.heap.size ∧ Below w.heap.size w w'
abbrev actL : List (ByteArray × Int) := [(wPass, 1), (wDrop, 2), (wReject, 3)]
theorem actL_new (w : World) : Lst (w.alloc (.cells #[.string wPass, .int .i64 1, .string wDrop, .int .i64 2, .string wReject, .int .i64 3] 94)) w.heap.size 0 actL := by
  intro k hk
  match k, hk with
  | 0, _ => exact ⟨cell_of_row _ w.heap.size 0 #[.string wPass, .int .i64 1, .string wDrop, .int .i64 2, .string wReject, .int .i64 3] 94 (0, 0) (heap_alloc_new w _), cell_of_row _ w.heap.size 1 #[.string wPass, .int .i64 1, .string wDrop, .int .i64 2, .string wReject, .int .i64 3] 94 (0, 0) (heap_alloc_new w _)⟩
  | 1, _ => exact ⟨cell_of_row _ w.heap.size 2 #[.string wPass, .int .i64 1, .string wDrop, .int .i64 2, .string wReject, .int .i64 3] 94 (0, 0) (heap_alloc_new w _), cell_of_row _ w.heap.size 3 #[.string wPass, .int .i64 1, .string wDrop, .int .i64 2, .string wReject, .int .i64 3] 94 (0, 0) (heap_alloc_new w _)⟩
  | 2, _ => exact ⟨cell_of_row _ w.heap.size 4 #[.string wPass, .int .i64 1, .string wDrop, .int .i64 2, .string wReject, .int .i64 3] 94 (0, 0) (heap_alloc_new w _), cell_of_row _ w.heap.size 5 #[.string wPass, .int .i64 1, .string wDrop, .int .i64 2, .string wReject, .int .i64 3] 94 (0, 0) (heap_alloc_new w _)⟩
  | j + 3, h => exact absurd h (by simp)
set_option maxHeartbeats 1000000 in
theorem actionWords_walk (w : World) : Calls Try.prog 43 #[] w fun e w' => e = .returned (.slice (some ⟨w.heap.size, 0, none⟩) 3 3) ∧ LstN w w' actL := by
  have H := hide (actL_new w)
  go_enter Try.func43, Try.ntmps43
  go_wp2
  go_ret
  exact ⟨rfl, H.out, by rw [World.size_alloc]; omega, (Below.refl _ _).alloc (Nat.le_refl _) _⟩
abbrev dirL : List (ByteArray × Int) := [(wIn, 1), (wOut, 2), (wBoth, 3)]
theorem dirL_new (w : World) : Lst (w.alloc (.cells #[.string wIn, .int .i64 1, .string wOut, .int .i64 2, .string wBoth, .int .i64 3] 94)) w.heap.size 0 dirL := by
  intro k hk
  match k, hk with
  | 0, _ => exact ⟨cell_of_row _ w.heap.size 0 #[.string wIn, .int .i64 1, .string wOut, .int .i64 2, .string wBoth, .int .i64 3] 94 (0, 0) (heap_alloc_new w _), cell_of_row _ w.heap.size 1 #[.string wIn, .int .i64 1, .string wOut, .int .i64 2, .string wBoth, .int .i64 3] 94 (0, 0) (heap_alloc_new w _)⟩
  | 1, _ => exact ⟨cell_of_row _ w.heap.size 2 #[.string wIn, .int .i64 1, .string wOut, .int .i64 2, .string wBoth, .int .i64 3] 94 (0, 0) (heap_alloc_new w _), cell_of_row _ w.heap.size 3 #[.string wIn, .int .i64 1, .string wOut, .int .i64 2, .string wBoth, .int .i64 3] 94 (0, 0) (heap_alloc_new w _)⟩
  | 2, _ => exact ⟨cell_of_row _ w.heap.size 4 #[.string wIn, .int .i64 1, .string wOut, .int .i64 2, .string wBoth, .int .i64 3] 94 (0, 0) (heap_alloc_new w _), cell_of_row _ w.heap.size 5 #[.string wIn, .int .i64 1, .string wOut, .int .i64 2, .string wBoth, .int .i64 3] 94 (0, 0) (heap_alloc_new w _)⟩
  | j + 3, h => exact absurd h (by simp)
set_option maxHeartbeats 1000000 in
theorem dirWords_walk (w : World) : Calls Try.prog 44 #[] w fun e w' => e = .returned (.slice (some ⟨w.heap.size, 0, none⟩) 3 3) ∧ LstN w w' dirL := by
  have H := hide (dirL_new w)
  go_enter Try.func44, Try.ntmps44
  go_wp2
  go_ret
  exact ⟨rfl, H.out, by rw [World.size_alloc]; omega, (Below.refl _ _).alloc (Nat.le_refl _) _⟩
abbrev proL : List (ByteArray × Int) := [(wAny, 0), (wIcmp, 1), (wTcp, 6), (wUdp, 17)]
theorem proL_new (w : World) : Lst (w.alloc (.cells #[.string wAny, .int .i64 0, .string wIcmp, .int .i64 1, .string wTcp, .int .i64 6, .string wUdp, .int .i64 17] 94)) w.heap.size 0 proL := by
  intro k hk
  match k, hk with
  | 0, _ => exact ⟨cell_of_row _ w.heap.size 0 #[.string wAny, .int .i64 0, .string wIcmp, .int .i64 1, .string wTcp, .int .i64 6, .string wUdp, .int .i64 17] 94 (0, 0) (heap_alloc_new w _), cell_of_row _ w.heap.size 1 #[.string wAny, .int .i64 0, .string wIcmp, .int .i64 1, .string wTcp, .int .i64 6, .string wUdp, .int .i64 17] 94 (0, 0) (heap_alloc_new w _)⟩
  | 1, _ => exact ⟨cell_of_row _ w.heap.size 2 #[.string wAny, .int .i64 0, .string wIcmp, .int .i64 1, .string wTcp, .int .i64 6, .string wUdp, .int .i64 17] 94 (0, 0) (heap_alloc_new w _), cell_of_row _ w.heap.size 3 #[.string wAny, .int .i64 0, .string wIcmp, .int .i64 1, .string wTcp, .int .i64 6, .string wUdp, .int .i64 17] 94 (0, 0) (heap_alloc_new w _)⟩
  | 2, _ => exact ⟨cell_of_row _ w.heap.size 4 #[.string wAny, .int .i64 0, .string wIcmp, .int .i64 1, .string wTcp, .int .i64 6, .string wUdp, .int .i64 17] 94 (0, 0) (heap_alloc_new w _), cell_of_row _ w.heap.size 5 #[.string wAny, .int .i64 0, .string wIcmp, .int .i64 1, .string wTcp, .int .i64 6, .string wUdp, .int .i64 17] 94 (0, 0) (heap_alloc_new w _)⟩
  | 3, _ => exact ⟨cell_of_row _ w.heap.size 6 #[.string wAny, .int .i64 0, .string wIcmp, .int .i64 1, .string wTcp, .int .i64 6, .string wUdp, .int .i64 17] 94 (0, 0) (heap_alloc_new w _), cell_of_row _ w.heap.size 7 #[.string wAny, .int .i64 0, .string wIcmp, .int .i64 1, .string wTcp, .int .i64 6, .string wUdp, .int .i64 17] 94 (0, 0) (heap_alloc_new w _)⟩
  | j + 4, h => exact absurd h (by simp)
set_option maxHeartbeats 1000000 in
theorem protoWords_walk (w : World) : Calls Try.prog 45 #[] w fun e w' => e = .returned (.slice (some ⟨w.heap.size, 0, none⟩) 4 4) ∧ LstN w w' proL := by
  have H := hide (proL_new w)
  go_enter Try.func45, Try.ntmps45
  go_wp2
  go_ret
  exact ⟨rfl, H.out, by rw [World.size_alloc]; omega, (Below.refl _ _).alloc (Nat.le_refl _) _⟩
abbrev staL : List (ByteArray × Int) := [(wNew, 1), (wKnown, 2), (wRelated, 3), (wStray, 4)]
theorem staL_new (w : World) : Lst (w.alloc (.cells #[.string wNew, .int .i64 1, .string wKnown, .int .i64 2, .string wRelated, .int .i64 3, .string wStray, .int .i64 4] 94)) w.heap.size 0 staL := by
  intro k hk
  match k, hk with
  | 0, _ => exact ⟨cell_of_row _ w.heap.size 0 #[.string wNew, .int .i64 1, .string wKnown, .int .i64 2, .string wRelated, .int .i64 3, .string wStray, .int .i64 4] 94 (0, 0) (heap_alloc_new w _), cell_of_row _ w.heap.size 1 #[.string wNew, .int .i64 1, .string wKnown, .int .i64 2, .string wRelated, .int .i64 3, .string wStray, .int .i64 4] 94 (0, 0) (heap_alloc_new w _)⟩
  | 1, _ => exact ⟨cell_of_row _ w.heap.size 2 #[.string wNew, .int .i64 1, .string wKnown, .int .i64 2, .string wRelated, .int .i64 3, .string wStray, .int .i64 4] 94 (0, 0) (heap_alloc_new w _), cell_of_row _ w.heap.size 3 #[.string wNew, .int .i64 1, .string wKnown, .int .i64 2, .string wRelated, .int .i64 3, .string wStray, .int .i64 4] 94 (0, 0) (heap_alloc_new w _)⟩
  | 2, _ => exact ⟨cell_of_row _ w.heap.size 4 #[.string wNew, .int .i64 1, .string wKnown, .int .i64 2, .string wRelated, .int .i64 3, .string wStray, .int .i64 4] 94 (0, 0) (heap_alloc_new w _), cell_of_row _ w.heap.size 5 #[.string wNew, .int .i64 1, .string wKnown, .int .i64 2, .string wRelated, .int .i64 3, .string wStray, .int .i64 4] 94 (0, 0) (heap_alloc_new w _)⟩
  | 3, _ => exact ⟨cell_of_row _ w.heap.size 6 #[.string wNew, .int .i64 1, .string wKnown, .int .i64 2, .string wRelated, .int .i64 3, .string wStray, .int .i64 4] 94 (0, 0) (heap_alloc_new w _), cell_of_row _ w.heap.size 7 #[.string wNew, .int .i64 1, .string wKnown, .int .i64 2, .string wRelated, .int .i64 3, .string wStray, .int .i64 4] 94 (0, 0) (heap_alloc_new w _)⟩
  | j + 4, h => exact absurd h (by simp)
set_option maxHeartbeats 1000000 in
theorem stateWords_walk (w : World) : Calls Try.prog 48 #[] w fun e w' => e = .returned (.slice (some ⟨w.heap.size, 0, none⟩) 4 4) ∧ LstN w w' staL := by
  have H := hide (staL_new w)
  go_enter Try.func48, Try.ntmps48
  go_wp2
  go_ret
  exact ⟨rfl, H.out, by rw [World.size_alloc]; omega, (Below.refl _ _).alloc (Nat.le_refl _) _⟩
theorem isNamed_no (g off n : Nat) (L : List (ByteArray × Int)) (x : Int) (w : World) (hn : L.length = n) (hm : n ≤ 1000) (h : Lst w g off L) (hg : g < w.heap.size) (hs : wordL L x = ⟨#[]⟩) :
    Calls Try.prog 65 #[.slice (some ⟨g, off, none⟩) n n, .int .i64 x] w fun e w' => e = .returned (.bool false) ∧ Below w.heap.size w w' := by
  have C := hide (wordOf_walk g off n L x w hn hm h hg)
  rw [hs] at C
  clear hs h hn
  go_enter Try.func65, Try.ntmps65
  go_wp2_with fail
  refine C.out.mono ?_
  rintro e w1 ⟨rfl, hb⟩
  go_wp2_with fail
  go_ret
  exact ⟨rfl, hb⟩
theorem isNamed_yes (g off n : Nat) (L : List (ByteArray × Int)) (x : Int) (w : World) (hn : L.length = n) (hm : n ≤ 1000) (h : Lst w g off L) (hg : g < w.heap.size) (s : ByteArray) (hs : wordL L x = s) (hb : (!s.toList.isEmpty) = true) :
    Calls Try.prog 65 #[.slice (some ⟨g, off, none⟩) n n, .int .i64 x] w fun e w' => e = .returned (.bool true) ∧ Below w.heap.size w w' := by
  have C := hide (wordOf_walk g off n L x w hn hm h hg)
  rw [hs] at C
  clear hs h hn
  go_enter Try.func65, Try.ntmps65
  go_wp2_with fail
  refine C.out.mono ?_
  rintro e w1 ⟨rfl, hb1⟩
  have HB := hide hb
  clear hb
  go_wp2_with fail
  go_ret
  exact ⟨ret_bool HB.out, hb1⟩
theorem full_of {s : ByteArray} (h : (s.size != 0) = true) : (!s.toList.isEmpty) = true := by
  have e : s.toList.length = s.size := by rw [ByteArray.toList_eq]; exact Array.length_toList
  cases hl : s.toList with
  | nil => rw [hl] at e; simp at e; rw [← e] at h; cases h
  | cons a b => rfl
theorem act_word {x : Int} (h : 1 ≤ x ∧ x ≤ 3) : wordL actL x = actW x := by
  have : x = 1 ∨ x = 2 ∨ x = 3 := by omega
  rcases this with rfl | rfl | rfl <;> rfl
theorem dir_word {x : Int} (h : 1 ≤ x ∧ x ≤ 3) : wordL dirL x = dirW x := by
  have : x = 1 ∨ x = 2 ∨ x = 3 := by omega
  rcases this with rfl | rfl | rfl <;> rfl
theorem pro_word {x : Int} (h : x = 0 ∨ x = 1 ∨ x = 6 ∨ x = 17) : wordL proL x = protW x := by
  rcases h with rfl | rfl | rfl | rfl <;> rfl
theorem sta_word {x : Int} (h : 1 ≤ x ∧ x ≤ 4) : wordL staL x = staW x := by
  have : x = 1 ∨ x = 2 ∨ x = 3 ∨ x = 4 := by omega
  rcases this with rfl | rfl | rfl | rfl <;> rfl
theorem act_none {x : Int} (h : ¬ (1 ≤ x ∧ x ≤ 3)) : wordL actL x = ⟨#[]⟩ := by
  simp only [wordL]
  rw [if_neg (by omega), if_neg (by omega), if_neg (by omega)]
theorem dir_none {x : Int} (h : ¬ (1 ≤ x ∧ x ≤ 3)) : wordL dirL x = ⟨#[]⟩ := by
  simp only [wordL]
  rw [if_neg (by omega), if_neg (by omega), if_neg (by omega)]
theorem pro_none {x : Int} (h : ¬ (x = 0 ∨ x = 1 ∨ x = 6 ∨ x = 17)) : wordL proL x = ⟨#[]⟩ := by
  simp only [wordL]
  rw [if_neg (by omega), if_neg (by omega), if_neg (by omega), if_neg (by omega)]
theorem sta_none {x : Int} (h : ¬ (1 ≤ x ∧ x ≤ 4)) : wordL staL x = ⟨#[]⟩ := by
  simp only [wordL]
  rw [if_neg (by omega), if_neg (by omega), if_neg (by omega), if_neg (by omega)]
theorem act_full (x : Int) : (!(actW x).toList.isEmpty) = true := by
  unfold actW
  split
  · exact full_of rfl
  split
  · exact full_of rfl
  · exact full_of rfl
theorem dir_full (x : Int) : (!(dirW x).toList.isEmpty) = true := by
  unfold dirW
  split
  · exact full_of rfl
  split
  · exact full_of rfl
  · exact full_of rfl
theorem pro_full (x : Int) : (!(protW x).toList.isEmpty) = true := by
  unfold protW
  split
  · exact full_of rfl
  split
  · exact full_of rfl
  split
  · exact full_of rfl
  · exact full_of rfl
theorem sta_full (x : Int) : (!(staW x).toList.isEmpty) = true := by
  unfold staW
  split
  · exact full_of rfl
  split
  · exact full_of rfl
  split
  · exact full_of rfl
  · exact full_of rfl
/-- isNamed over a list of the program's. -/
theorem named_act {w W : World} (x : Int) (b : Bool) (h : inB x 1 3 = b) (hl : Lst W w.heap.size 0 actL) (hg : w.heap.size < W.heap.size) :
    Calls Try.prog 65 #[.slice (some ⟨w.heap.size, 0, none⟩) 3 3, .int .i64 x] W fun e w' => e = .returned (.bool b) ∧ Below W.heap.size W w' := by
  cases b with
  | true => exact isNamed_yes _ 0 3 actL x W rfl (by decide) hl hg _ (act_word (inB_iff.1 h)) (act_full x)
  | false => exact isNamed_no _ 0 3 actL x W rfl (by decide) hl hg (act_none (fun e => by rw [inB_iff.2 e] at h; cases h))
theorem word_act {w W : World} (x : Int) (h : inB x 1 3 = true) (hl : Lst W w.heap.size 0 actL) (hg : w.heap.size < W.heap.size) :
    Calls Try.prog 79 #[.slice (some ⟨w.heap.size, 0, none⟩) 3 3, .int .i64 x] W fun e w' => e = .returned (.string (actW x)) ∧ Below W.heap.size W w' := by
  have e := act_word (inB_iff.1 h)
  have c := wordOf_walk w.heap.size 0 3 actL x W rfl (by decide) hl hg
  rw [e] at c
  exact c
/-- isNamed over a list of the program's. -/
theorem named_dir {w W : World} (x : Int) (b : Bool) (h : inB x 1 3 = b) (hl : Lst W w.heap.size 0 dirL) (hg : w.heap.size < W.heap.size) :
    Calls Try.prog 65 #[.slice (some ⟨w.heap.size, 0, none⟩) 3 3, .int .i64 x] W fun e w' => e = .returned (.bool b) ∧ Below W.heap.size W w' := by
  cases b with
  | true => exact isNamed_yes _ 0 3 dirL x W rfl (by decide) hl hg _ (dir_word (inB_iff.1 h)) (dir_full x)
  | false => exact isNamed_no _ 0 3 dirL x W rfl (by decide) hl hg (dir_none (fun e => by rw [inB_iff.2 e] at h; cases h))
theorem word_dir {w W : World} (x : Int) (h : inB x 1 3 = true) (hl : Lst W w.heap.size 0 dirL) (hg : w.heap.size < W.heap.size) :
    Calls Try.prog 79 #[.slice (some ⟨w.heap.size, 0, none⟩) 3 3, .int .i64 x] W fun e w' => e = .returned (.string (dirW x)) ∧ Below W.heap.size W w' := by
  have e := dir_word (inB_iff.1 h)
  have c := wordOf_walk w.heap.size 0 3 dirL x W rfl (by decide) hl hg
  rw [e] at c
  exact c
/-- isNamed over a list of the program's. -/
theorem named_pro {w W : World} (x : Int) (b : Bool) (h : decide (x = 0 ∨ x = 1 ∨ x = 6 ∨ x = 17) = b) (hl : Lst W w.heap.size 0 proL) (hg : w.heap.size < W.heap.size) :
    Calls Try.prog 65 #[.slice (some ⟨w.heap.size, 0, none⟩) 4 4, .int .i64 x] W fun e w' => e = .returned (.bool b) ∧ Below W.heap.size W w' := by
  cases b with
  | true => exact isNamed_yes _ 0 4 proL x W rfl (by decide) hl hg _ (pro_word (of_decide_eq_true h)) (pro_full x)
  | false => exact isNamed_no _ 0 4 proL x W rfl (by decide) hl hg (pro_none (of_decide_eq_false h))
theorem word_pro {w W : World} (x : Int) (h : decide (x = 0 ∨ x = 1 ∨ x = 6 ∨ x = 17) = true) (hl : Lst W w.heap.size 0 proL) (hg : w.heap.size < W.heap.size) :
    Calls Try.prog 79 #[.slice (some ⟨w.heap.size, 0, none⟩) 4 4, .int .i64 x] W fun e w' => e = .returned (.string (protW x)) ∧ Below W.heap.size W w' := by
  have e := pro_word (of_decide_eq_true h)
  have c := wordOf_walk w.heap.size 0 4 proL x W rfl (by decide) hl hg
  rw [e] at c
  exact c
/-- isNamed over a list of the program's. -/
theorem named_sta {w W : World} (x : Int) (b : Bool) (h : inB x 1 4 = b) (hl : Lst W w.heap.size 0 staL) (hg : w.heap.size < W.heap.size) :
    Calls Try.prog 65 #[.slice (some ⟨w.heap.size, 0, none⟩) 4 4, .int .i64 x] W fun e w' => e = .returned (.bool b) ∧ Below W.heap.size W w' := by
  cases b with
  | true => exact isNamed_yes _ 0 4 staL x W rfl (by decide) hl hg _ (sta_word (inB_iff.1 h)) (sta_full x)
  | false => exact isNamed_no _ 0 4 staL x W rfl (by decide) hl hg (sta_none (fun e => by rw [inB_iff.2 e] at h; cases h))
theorem word_sta {w W : World} (x : Int) (h : inB x 1 4 = true) (hl : Lst W w.heap.size 0 staL) (hg : w.heap.size < W.heap.size) :
    Calls Try.prog 79 #[.slice (some ⟨w.heap.size, 0, none⟩) 4 4, .int .i64 x] W fun e w' => e = .returned (.string (staW x)) ∧ Below W.heap.size W w' := by
  have e := sta_word (inB_iff.1 h)
  have c := wordOf_walk w.heap.size 0 4 staL x W rfl (by decide) hl hg
  rw [e] at c
  exact c
end Go.Proofs.Ytgegnkboibgbgaa
