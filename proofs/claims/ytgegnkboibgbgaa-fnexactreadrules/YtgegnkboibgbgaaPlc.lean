/-
Contracts of functions of this seat.
-/
import Derived.Test.YtgegnkboibgbgaaRows
import Derived.WalkKit
import Derived.ProofKit
import Derived.OpenShut
import Derived.Test.YtgegnkboibgbgaaLnl
import Derived.Test.YtgegnkboibgbgaaRum
namespace Go.Proofs.Ytgegnkboibgbgaa
open Go.ChangeShapes Go.WideShapes Go.ChangeAt Go.RowKit
set_option linter.unusedVariables false
set_option maxRecDepth 100000
theorem specProto (P : Int) (w : World) : Calls Try.prog 62 #[.int .i64 P] w fun e w' => e = .returned (.string (protW P)) ∧ w' = w := by
  by_cases h1 : P = 1
  · subst h1
    go_enter Try.func62, Try.ntmps62
    go_wp2
    go_ret
    exact ⟨rfl, rfl⟩
  by_cases h6 : P = 6
  · subst h6
    go_enter Try.func62, Try.ntmps62
    go_wp2
    go_ret
    exact ⟨rfl, rfl⟩
  by_cases h17 : P = 17
  · subst h17
    go_enter Try.func62, Try.ntmps62
    go_wp2
    go_ret
    exact ⟨rfl, rfl⟩
  have E : Hid (protW P = wAny) := hide (by unfold protW; rw [if_neg h1, if_neg h6, if_neg h17])
  have b1 : (P == 1) = false := beq_eq_false_iff_ne.2 h1
  have b6 : (P == 6) = false := beq_eq_false_iff_ne.2 h6
  have b17 : (P == 17) = false := beq_eq_false_iff_ne.2 h17
  clear h1 h6 h17
  rw [E.out]
  go_enter Try.func62, Try.ntmps62
  go_wp2
  go_ret
  exact ⟨rfl, rfl⟩

/-- The place of a word among some; -1: it is none. -/
def placeL : List (List UInt8) → List UInt8 → Nat → Int
  | [], _, _ => -1
  | p :: r, q, i => if p = q then (i : Int) else placeL r q (i + 1)
theorem placeL_at {ps : List (List UInt8)} {i : Nat} {p q : List UInt8} (h : ps[i]? = some p) : placeL (ps.drop i) q i = if p = q then (i : Int) else placeL (ps.drop (i + 1)) q (i + 1) := by
  obtain ⟨hi, e⟩ := List.getElem?_eq_some_iff.1 h
  rw [List.drop_eq_getElem_cons hi, e]
  rfl
set_option maxHeartbeats 4000000 in
theorem l09Place_walk (l q : List UInt8) (w : World) (hl : l.length ≤ 1000) (hq : q.length ≤ 1048576) :
    Calls Try.prog 39 #[.string (bs l), .string (bs q)] w fun e w' => e = .returned (.int .i64 (placeL (splitL 32 l) q 0)) ∧ Below w.heap.size w w' := by
  have C := hide (fun W => l02Cut_walk l 32 W (by omega))
  have HP := hide (splitL_pos 32 l)
  have HN1 : Hid ((splitL 32 l).length ≤ 1001) := hide (by have := splitL_len 32 l; omega)
  generalize splitL 32 l = ps at *
  go_enter Try.func39, Try.ntmps39
  go_wp2_with fail
  refine (C.out w).mono ?_
  rintro e w1 ⟨u, rfl, hou, hb1⟩
  obtain ⟨g, cap, hu, _, hg, _, hcells⟩ := hou.cellS HP.out
  obtain ⟨N, hN, HN⟩ : ∃ N, ps.length = N ∧ Hid (ps.length = N) := ⟨_, rfl, hide rfl⟩
  rw [hN] at hu
  subst hu
  have hN2 : N ≤ 1001 := by have := HN1.out; omega
  have HB := hide hb1
  have HC := hide hcells
  clear hb1 hou hcells hN hg C
  go_wp2_with fail
  go_loopw [6] (fun t w2 => ∃ i : Nat, i ≤ N ∧ t = .int .i64 i ∧ w2 = w1 ∧ Hid (placeL ps q 0 = placeL (ps.drop i) q i)) (fun t _ => N - (intOf t).toNat)
  case atStart => exact ⟨0, Nat.zero_le _, rfl, rfl, hide rfl⟩
  case round =>
    obtain ⟨i, hi, rfl, hwr, HE⟩ := hrel
    subst hwr
    by_cases hlt : i < N
    · obtain ⟨p, hp⟩ : ∃ p, ps[i]? = some p := ⟨_, List.getElem?_eq_getElem (by have := HN.out; omega)⟩
      have hc := HC.out i p hp
      have HST := hide (placeL_at (q := q) hp)
      clear hp
      by_cases hpq : p = q
      · have HE2 : Hid (placeL ps q 0 = (i : Int)) := hide (by rw [HE.out, HST.out, if_pos hpq])
        have hb : ((bs p).toList == (bs q).toList) = true := by rw [bs_toList, bs_toList, hpq]; simp
        clear hpq
        go_wp2_with fail
        go_ret
        exact ⟨by rw [HE2.out]; rfl, HB.out⟩
      · have HE2 : Hid (placeL ps q 0 = placeL (ps.drop (i + 1)) q (i + 1)) := hide (by rw [HE.out, HST.out, if_neg hpq])
        have hb : ((bs p).toList == (bs q).toList) = false := by rw [bs_toList, bs_toList]; simpa using hpq
        clear hpq
        go_wp2_with fail
        exact ⟨⟨i + 1, by omega, by go_num, trivial, HE2⟩, by simp [intOf]; omega⟩
    · have hin : i = N := by omega
      subst hin
      have HE2 : Hid (placeL ps q 0 = -1) := hide (by rw [HE.out, List.drop_eq_nil_of_le (by have := HN.out; omega)]; rfl)
      go_wp2_with fail
      go_ret
      exact ⟨by rw [HE2.out]; rfl, HB.out⟩
abbrev kAny : List UInt8 := [97, 110, 121]
abbrev kIcmp : List UInt8 := [105, 99, 109, 112]
abbrev kTcp : List UInt8 := [116, 99, 112]
abbrev kUdp : List UInt8 := [117, 100, 112]
/-- The protocols' names and numbers. -/
def protoA : List (List UInt8 × Int) → List UInt8 → Option Int
  | [], _ => none
  | (s, n) :: r, q => if s = q then some n else protoA r q
abbrev protoPL : List (List UInt8 × Int) := [(kAny, 0), (kIcmp, 1), (kTcp, 6), (kUdp, 17)]
def protoQ (q : List UInt8) : Option Int := protoA protoPL q
theorem protoA_at {L : List (List UInt8 × Int)} {k : Nat} {s : List UInt8} {n : Int} {q : List UInt8} (h : L[k]? = some (s, n)) : protoA (L.drop k) q = if s = q then some n else protoA (L.drop (k + 1)) q := by
  obtain ⟨hi, e⟩ := List.getElem?_eq_some_iff.1 h
  rw [List.drop_eq_getElem_cons hi, e]
  rfl
theorem proto_cells (w : World) (t : Nat) : ∀ k s n, protoPL[k]? = some (s, n) → (w.alloc (.cells #[.int .i64 0, .int .i64 1, .int .i64 6, .int .i64 17] t)).cell? ⟨w.heap.size, k, none⟩ = some (.int .i64 n) ∧ protW n = bs s := by
  intro k s n h
  have hc := fun j => cell_of_row (w.alloc (.cells #[.int .i64 0, .int .i64 1, .int .i64 6, .int .i64 17] t)) w.heap.size j #[.int .i64 0, .int .i64 1, .int .i64 6, .int .i64 17] t (0, 0) (heap_alloc_new w _)
  match k with
  | 0 => cases h; exact ⟨hc 0, rfl⟩
  | 1 => cases h; exact ⟨hc 1, rfl⟩
  | 2 => cases h; exact ⟨hc 2, rfl⟩
  | 3 => cases h; exact ⟨hc 3, rfl⟩
  | k + 4 => simp at h
set_option maxHeartbeats 4000000 in
theorem l09ProtoOf_walk (q : List UInt8) (w : World) (hq : q.length ≤ 1048576) :
    Calls Try.prog 38 #[.string (bs q)] w fun e w' => e = .returned (.tuple #[.int .i64 ((protoQ q).getD 0), .bool (protoQ q).isSome]) ∧ Below w.heap.size w w' := by
  have HC := hide (proto_cells w 2)
  have HB : Hid (Below w.heap.size w (w.alloc (.cells #[.int .i64 0, .int .i64 1, .int .i64 6, .int .i64 17] 2))) := hide ((Below.refl _ _).alloc (Nat.le_refl _) _)
  have HE0 : Hid (protoQ q = protoA (protoPL.drop 0) q) := hide rfl
  go_enter Try.func38, Try.ntmps38
  go_wp2_with fail
  generalize hW : w.alloc (.cells #[.int .i64 0, .int .i64 1, .int .i64 6, .int .i64 17] 2) = W1 at *
  clear hW
  go_loopw [5] (fun t w2 => ∃ k : Nat, k ≤ 4 ∧ t = .int .i64 k ∧ Hid (w2 = W1) ∧ Hid (protoQ q = protoA (protoPL.drop k) q)) (fun t _ => 4 - (intOf t).toNat)
  case atStart => exact ⟨0, by omega, rfl, hide rfl, HE0⟩
  case round =>
    obtain ⟨k, hk, rfl, HW, HE⟩ := hrel
    have hw := HW.out
    subst hw
    by_cases hlt : k < 4
    · obtain ⟨s, n, hsn⟩ : ∃ s n, protoPL[k]? = some (s, n) := by
        match k, hlt with
        | 0, _ => exact ⟨_, _, rfl⟩
        | 1, _ => exact ⟨_, _, rfl⟩
        | 2, _ => exact ⟨_, _, rfl⟩
        | 3, _ => exact ⟨_, _, rfl⟩
      obtain ⟨hc, hpw⟩ := HC.out k s n hsn
      have HST := hide (protoA_at (q := q) hsn)
      have CN := hide (fun W => specProto n W)
      rw [hpw] at CN
      have hki : (k : Int) < 4 := by omega
      clear hsn hpw
      by_cases hs : s = q
      · have HE2 : Hid (protoQ q = some n) := hide (by rw [HE.out, HST.out, if_pos hs])
        have hb : ((bs s).toList == (bs q).toList) = true := by rw [bs_toList, bs_toList, hs]; simp
        clear hs
        go_wp2_with (go_at_call 62; refine (CN.out _).mono ?_; rintro e w' ⟨rfl, rfl⟩)
        go_ret2
        exact ⟨by rw [HE2.out]; rfl, HB.out⟩
      · have HE2 : Hid (protoQ q = protoA (protoPL.drop (k + 1)) q) := hide (by rw [HE.out, HST.out, if_neg hs])
        have hb : ((bs s).toList == (bs q).toList) = false := by rw [bs_toList, bs_toList]; simpa using hs
        clear hs
        go_wp2_with (go_at_call 62; refine (CN.out _).mono ?_; rintro e w' ⟨rfl, rfl⟩)
        exact ⟨⟨k + 1, by omega, by go_num, hide trivial, HE2⟩, by simp [intOf]; omega⟩
    · have hk4 : k = 4 := by omega
      subst hk4
      have HE2 : Hid (protoQ q = none) := hide (by rw [HE.out]; rfl)
      go_wp2_with fail
      go_ret2
      exact ⟨by rw [HE2.out]; rfl, HB.out⟩
end Go.Proofs.Ytgegnkboibgbgaa
