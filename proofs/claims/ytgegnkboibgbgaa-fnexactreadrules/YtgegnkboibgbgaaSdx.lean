/-
Contracts of functions of this seat.
-/
import Derived.Test.YtgegnkboibgbgaaRows
import Derived.WalkKit
import Derived.ProofKit
import Derived.OpenShut
import Derived.Test.YtgegnkboibgbgaaLnl
import Derived.Test.YtgegnkboibgbgaaRum
import Derived.Test.YtgegnkboibgbgaaRk2
namespace Go.Proofs.Ytgegnkboibgbgaa
open Go.ChangeShapes Go.WideShapes Go.ChangeAt Go.RowKit
set_option linter.unusedVariables false
set_option maxRecDepth 100000
theorem specProto (P : Int) (w : World) : Calls Try.prog 62 #[.int .i64 P] w fun e w' => e = .returned (.string (protW P)) ∧ w' = w := by
  by_cases h1 : P = 1
  · subst h1
    go_enter Try.func62, Try.ntmps62
    go_wp2
    go_ret
    exact ⟨rfl, rfl⟩
  by_cases h6 : P = 6
  · subst h6
    go_enter Try.func62, Try.ntmps62
    go_wp2
    go_ret
    exact ⟨rfl, rfl⟩
  by_cases h17 : P = 17
  · subst h17
    go_enter Try.func62, Try.ntmps62
    go_wp2
    go_ret
    exact ⟨rfl, rfl⟩
  have E : Hid (protW P = wAny) := hide (by unfold protW; rw [if_neg h1, if_neg h6, if_neg h17])
  have b1 : (P == 1) = false := beq_eq_false_iff_ne.2 h1
  have b6 : (P == 6) = false := beq_eq_false_iff_ne.2 h6
  have b17 : (P == 17) = false := beq_eq_false_iff_ne.2 h17
  clear h1 h6 h17
  rw [E.out]
  go_enter Try.func62, Try.ntmps62
  go_wp2
  go_ret
  exact ⟨rfl, rfl⟩

/-- The place of a word among some; -1: it is none. -/
def placeL : List (List UInt8) → List UInt8 → Nat → Int
  | [], _, _ => -1
  | p :: r, q, i => if p = q then (i : Int) else placeL r q (i + 1)
theorem placeL_at {ps : List (List UInt8)} {i : Nat} {p q : List UInt8} (h : ps[i]? = some p) : placeL (ps.drop i) q i = if p = q then (i : Int) else placeL (ps.drop (i + 1)) q (i + 1) := by
  obtain ⟨hi, e⟩ := List.getElem?_eq_some_iff.1 h
  rw [List.drop_eq_getElem_cons hi, e]
  rfl
set_option maxHeartbeats 4000000 in
theorem l09Place_walk (l q : List UInt8) (w : World) (hl : l.length ≤ 1000) (hq : q.length ≤ 1048576) :
    Calls Try.prog 39 #[.string (bs l), .string (bs q)] w fun e w' => e = .returned (.int .i64 (placeL (splitL 32 l) q 0)) ∧ Below w.heap.size w w' := by
  have C := hide (fun W => l02Cut_walk l 32 W (by omega))
  have HP := hide (splitL_pos 32 l)
  have HN1 : Hid ((splitL 32 l).length ≤ 1001) := hide (by have := splitL_len 32 l; omega)
  generalize splitL 32 l = ps at *
  go_enter Try.func39, Try.ntmps39
  go_wp2_with fail
  refine (C.out w).mono ?_
  rintro e w1 ⟨u, rfl, hou, hb1⟩
  obtain ⟨g, cap, hu, _, hg, _, hcells⟩ := hou.cellS HP.out
  obtain ⟨N, hN, HN⟩ : ∃ N, ps.length = N ∧ Hid (ps.length = N) := ⟨_, rfl, hide rfl⟩
  rw [hN] at hu
  subst hu
  have hN2 : N ≤ 1001 := by have := HN1.out; omega
  have HB := hide hb1
  have HC := hide hcells
  clear hb1 hou hcells hN hg C
  go_wp2_with fail
  go_loopw [6] (fun t w2 => ∃ i : Nat, i ≤ N ∧ t = .int .i64 i ∧ w2 = w1 ∧ Hid (placeL ps q 0 = placeL (ps.drop i) q i)) (fun t _ => N - (intOf t).toNat)
  case atStart => exact ⟨0, Nat.zero_le _, rfl, rfl, hide rfl⟩
  case round =>
    obtain ⟨i, hi, rfl, hwr, HE⟩ := hrel
    subst hwr
    by_cases hlt : i < N
    · obtain ⟨p, hp⟩ : ∃ p, ps[i]? = some p := ⟨_, List.getElem?_eq_getElem (by have := HN.out; omega)⟩
      have hc := HC.out i p hp
      have HST := hide (placeL_at (q := q) hp)
      clear hp
      by_cases hpq : p = q
      · have HE2 : Hid (placeL ps q 0 = (i : Int)) := hide (by rw [HE.out, HST.out, if_pos hpq])
        have hb : ((bs p).toList == (bs q).toList) = true := by rw [bs_toList, bs_toList, hpq]; simp
        clear hpq
        go_wp2_with fail
        go_ret
        exact ⟨by rw [HE2.out]; rfl, HB.out⟩
      · have HE2 : Hid (placeL ps q 0 = placeL (ps.drop (i + 1)) q (i + 1)) := hide (by rw [HE.out, HST.out, if_neg hpq])
        have hb : ((bs p).toList == (bs q).toList) = false := by rw [bs_toList, bs_toList]; simpa using hpq
        clear hpq
        go_wp2_with fail
        exact ⟨⟨i + 1, by omega, by go_num, trivial, HE2⟩, by simp [intOf]; omega⟩
    · have hin : i = N := by omega
      subst hin
      have HE2 : Hid (placeL ps q 0 = -1) := hide (by rw [HE.out, List.drop_eq_nil_of_le (by have := HN.out; omega)]; rfl)
      go_wp2_with fail
      go_ret
      exact ⟨by rw [HE2.out]; rfl, HB.out⟩
abbrev kAny : List UInt8 := [97, 110, 121]
abbrev kIcmp : List UInt8 := [105, 99, 109, 112]
abbrev kTcp : List UInt8 := [116, 99, 112]
abbrev kUdp : List UInt8 := [117, 100, 112]
/-- The protocols' names and numbers. -/
def protoA : List (List UInt8 × Int) → List UInt8 → Option Int
  | [], _ => none
  | (s, n) :: r, q => if s = q then some n else protoA r q
abbrev protoPL : List (List UInt8 × Int) := [(kAny, 0), (kIcmp, 1), (kTcp, 6), (kUdp, 17)]
def protoQ (q : List UInt8) : Option Int := protoA protoPL q
theorem protoA_at {L : List (List UInt8 × Int)} {k : Nat} {s : List UInt8} {n : Int} {q : List UInt8} (h : L[k]? = some (s, n)) : protoA (L.drop k) q = if s = q then some n else protoA (L.drop (k + 1)) q := by
  obtain ⟨hi, e⟩ := List.getElem?_eq_some_iff.1 h
  rw [List.drop_eq_getElem_cons hi, e]
  rfl
theorem proto_cells (w : World) (t : Nat) : ∀ k s n, protoPL[k]? = some (s, n) → (w.alloc (.cells #[.int .i64 0, .int .i64 1, .int .i64 6, .int .i64 17] t)).cell? ⟨w.heap.size, k, none⟩ = some (.int .i64 n) ∧ protW n = bs s := by
  intro k s n h
  have hc := fun j => cell_of_row (w.alloc (.cells #[.int .i64 0, .int .i64 1, .int .i64 6, .int .i64 17] t)) w.heap.size j #[.int .i64 0, .int .i64 1, .int .i64 6, .int .i64 17] t (0, 0) (heap_alloc_new w _)
  match k with
  | 0 => cases h; exact ⟨hc 0, rfl⟩
  | 1 => cases h; exact ⟨hc 1, rfl⟩
  | 2 => cases h; exact ⟨hc 2, rfl⟩
  | 3 => cases h; exact ⟨hc 3, rfl⟩
  | k + 4 => simp at h
set_option maxHeartbeats 4000000 in
theorem l09ProtoOf_walk (q : List UInt8) (w : World) (hq : q.length ≤ 1048576) :
    Calls Try.prog 38 #[.string (bs q)] w fun e w' => e = .returned (.tuple #[.int .i64 ((protoQ q).getD 0), .bool (protoQ q).isSome]) ∧ Below w.heap.size w w' := by
  have HC := hide (proto_cells w 2)
  have HB : Hid (Below w.heap.size w (w.alloc (.cells #[.int .i64 0, .int .i64 1, .int .i64 6, .int .i64 17] 2))) := hide ((Below.refl _ _).alloc (Nat.le_refl _) _)
  have HE0 : Hid (protoQ q = protoA (protoPL.drop 0) q) := hide rfl
  go_enter Try.func38, Try.ntmps38
  go_wp2_with fail
  generalize hW : w.alloc (.cells #[.int .i64 0, .int .i64 1, .int .i64 6, .int .i64 17] 2) = W1 at *
  clear hW
  go_loopw [5] (fun t w2 => ∃ k : Nat, k ≤ 4 ∧ t = .int .i64 k ∧ Hid (w2 = W1) ∧ Hid (protoQ q = protoA (protoPL.drop k) q)) (fun t _ => 4 - (intOf t).toNat)
  case atStart => exact ⟨0, by omega, rfl, hide rfl, HE0⟩
  case round =>
    obtain ⟨k, hk, rfl, HW, HE⟩ := hrel
    have hw := HW.out
    subst hw
    by_cases hlt : k < 4
    · obtain ⟨s, n, hsn⟩ : ∃ s n, protoPL[k]? = some (s, n) := by
        match k, hlt with
        | 0, _ => exact ⟨_, _, rfl⟩
        | 1, _ => exact ⟨_, _, rfl⟩
        | 2, _ => exact ⟨_, _, rfl⟩
        | 3, _ => exact ⟨_, _, rfl⟩
      obtain ⟨hc, hpw⟩ := HC.out k s n hsn
      have HST := hide (protoA_at (q := q) hsn)
      have CN := hide (fun W => specProto n W)
      rw [hpw] at CN
      have hki : (k : Int) < 4 := by omega
      clear hsn hpw
      by_cases hs : s = q
      · have HE2 : Hid (protoQ q = some n) := hide (by rw [HE.out, HST.out, if_pos hs])
        have hb : ((bs s).toList == (bs q).toList) = true := by rw [bs_toList, bs_toList, hs]; simp
        clear hs
        go_wp2_with (go_at_call 62; refine (CN.out _).mono ?_; rintro e w' ⟨rfl, rfl⟩)
        go_ret2
        exact ⟨by rw [HE2.out]; rfl, HB.out⟩
      · have HE2 : Hid (protoQ q = protoA (protoPL.drop (k + 1)) q) := hide (by rw [HE.out, HST.out, if_neg hs])
        have hb : ((bs s).toList == (bs q).toList) = false := by rw [bs_toList, bs_toList]; simpa using hs
        clear hs
        go_wp2_with (go_at_call 62; refine (CN.out _).mono ?_; rintro e w' ⟨rfl, rfl⟩)
        exact ⟨⟨k + 1, by omega, by go_num, hide trivial, HE2⟩, by simp [intOf]; omega⟩
    · have hk4 : k = 4 := by omega
      subst hk4
      have HE2 : Hid (protoQ q = none) := hide (by rw [HE.out]; rfl)
      go_wp2_with fail
      go_ret2
      exact ⟨by rw [HE2.out]; rfl, HB.out⟩

abbrev kPort : List UInt8 := [112, 111, 114, 116]
/-- The ports of a side: of the ends that a word is cut into at its dashes the first and the last. -/
def endsQ (z : List UInt8) : Option (Int × Int) := if numF ((splitL 45 z).headD []) 5 = true ∧ numF ((splitL 45 z).getLastD []) 5 = true ∧ (splitL 45 z).length ≤ 2 then some (numV ((splitL 45 z).headD []), numV ((splitL 45 z).getLastD [])) else none
def portsQ (a b : Int) (r : List (List UInt8)) : Option (Int × Int × Int × Int × List (List UInt8)) := match keyT kPort r with
  | none => some (a, b, 0, 65535, r)
  | some (z, r') => match endsQ z with
    | none => none
    | some (lo, hi) => some (a, b, lo, hi, r')
/-- One side of a rule's line: a prefix, its ports, the words behind. -/
def sideQ (key : List UInt8) (ps : List (List UInt8)) : Option (Int × Int × Int × Int × List (List UInt8)) := match keyT key ps with
  | none => none
  | some (y, r) => if y = kAny then portsQ 0 0 r else if pfOK y = true then portsQ (pfA y) (pfB y) r else none
/-- What is wanted of reading a side. -/
def SideP (w w0 : World) (res : Option (Int × Int × Int × Int × List (List UInt8))) (e : Ending) (w' : World) : Prop := ∃ (a b lo hi : Int) (v : Value), e = .returned (.tuple #[.agg #[.int .i64 a, .int .i64 b], .int .i64 lo, .int .i64 hi, v, .bool res.isSome]) ∧ (∀ a0 b0 lo0 hi0 r0, res = some (a0, b0, lo0, hi0, r0) → a = a0 ∧ b = b0 ∧ lo = lo0 ∧ hi = hi0 ∧ ∃ aa n c, v = .slice aa n c ∧ ArrS w0 aa r0 ∧ r0.length = n ∧ n ≤ c) ∧ Below w.heap.size w w'
/-- l09Side under way: its answer's room, its prefix' box. -/
def SS (w W : World) (X : Nat) (pv : Array Value) : Prop := Below w.heap.size w W ∧ HoldV W w.heap.size #[.int .i64 0, .int .i64 0] 37 ∧ HoldV W X pv 37 ∧ w.heap.size < X
theorem SS.next {w W W' : World} {X : Nat} {pv : Array Value} (h : SS w W X pv) (hb : Below W.heap.size W W') : SS w W' X pv := ⟨h.1.trans (hb.mono h.1.size), h.2.1.next hb, h.2.2.1.next hb, h.2.2.2⟩
theorem SS.fin {w W : World} {X : Nat} {pv : Array Value} (h : SS w W X pv) {v0 v1 : Value} : Below w.heap.size w ((W.setCell ⟨w.heap.size, 0, none⟩ v0).setCell ⟨w.heap.size, 1, none⟩ v1) :=
  (h.1.setCell (p := ⟨w.heap.size, 0, none⟩) (Nat.le_refl _) _).setCell (p := ⟨w.heap.size, 1, none⟩) (Nat.le_refl _) _
theorem SS.set2 {w W : World} {X : Nat} {v0 v1 : Value} (h : SS w W X #[.int .i64 0, .int .i64 0]) : SS w ((W.setCell ⟨X, 0, none⟩ v0).setCell ⟨X, 1, none⟩ v1) X #[v0, v1] := by
  obtain ⟨h1, h2, h3, h4⟩ := h
  have hb : Below X W ((W.setCell ⟨X, 0, none⟩ v0).setCell ⟨X, 1, none⟩ v1) := ((Below.refl _ _).setCell (p := ⟨X, 0, none⟩) (Nat.le_refl _) _).setCell (p := ⟨X, 1, none⟩) (Nat.le_refl _) _
  exact ⟨h1.trans (hb.mono (Nat.le_of_lt h4)), h2.below hb h4, heap_setCell_same _ X 1 _ _ v1 (heap_setCell_same W X 0 _ _ v0 h3), h4⟩
theorem splitL_last (c : UInt8) (z : List UInt8) : (splitL c z)[(splitL c z).length - 1]? = some ((splitL c z).getLastD []) := by
  have h := splitL_pos c z
  cases e : splitL c z with
  | nil => rw [e] at h; simp at h
  | cons a r =>
    rw [List.getLastD_cons, List.getElem?_eq_getElem (by simp)]
    congr 1
    rw [← List.getLast_eq_getElem (by simp)]
    exact (List.getLast_eq_getLastD (by simp)).trans (by simp)
theorem splitL_head (c : UInt8) (z : List UInt8) : (splitL c z)[0]? = some ((splitL c z).headD []) := by
  have h := splitL_pos c z
  cases e : splitL c z with
  | nil => rw [e] at h; simp at h
  | cons a r => rfl
set_option maxHeartbeats 16000000 in
theorem l09Side_walk (key : List UInt8) (ps : List (List UInt8)) (a : Option Addr) (n cap : Nat) (w0 w : World) (hb0 : Below w0.heap.size w0 w) (hn : ps.length = n) (ha : ArrS w0 a ps) (hc : n ≤ cap) (hw : ∀ q ∈ ps, q.length ≤ 1048576) (hk : key.length ≤ 1000) :
    Calls Try.prog 40 #[.slice a n cap, .string (bs key)] w fun e w' => SideP w w0 (sideQ key ps) e w' := by
  have HA := hide ha
  have HN := hide hn
  have HW := hide hw
  have HB1 : Hid (Below w.heap.size w (w.alloc (.cells #[.int .i64 0, .int .i64 0] 37))) := hide ((Below.refl _ _).alloc (Nat.le_refl _) _)
  have HH1 : Hid (HoldV (w.alloc (.cells #[.int .i64 0, .int .i64 0] 37)) w.heap.size #[.int .i64 0, .int .i64 0] 37) := hide (heap_alloc_new _ _)
  have HB00 := hide hb0
  have K1 := hide (key_walk2 w0 key ps a n cap (w.alloc (.cells #[.int .i64 0, .int .i64 0] 37)) hn ha (hb0.trans (HB1.out.mono hb0.size)) hc)
  clear ha hn hw hb0
  go_enter Try.func40, Try.ntmps40
  go_wp2_with fail
  generalize w.alloc (.cells #[.int .i64 0, .int .i64 0] 37) = W1 at *
  refine K1.out.mono ?_
  rintro e u2 ⟨hkk, hb⟩
  have HB2 := hide (HB1.out.trans (hb.mono HB1.out.size))
  have HSS : Hid (SS w (u2.alloc (.cells #[.int .i64 0, .int .i64 0] 37)) u2.heap.size #[.int .i64 0, .int .i64 0]) := hide (by
    have hb2 := (Below.refl u2.heap.size u2).alloc (Nat.le_refl _) (.cells #[.int .i64 0, .int .i64 0] 37)
    have hh := HH1.out.next hb
    exact ⟨HB2.out.trans (hb2.mono HB2.out.size), hh.next hb2, heap_alloc_new _ _, hh.lt⟩)
  clear hb K1 HB1 HH1
  rcases hkk with ⟨hkk, rfl⟩ | ⟨y, R, a2, hkk, rfl, har, hrl⟩
  · have HQ : Hid (sideQ key ps = none) := hide (by unfold sideQ; rw [hkk])
    clear hkk
    have c0 := HSS.out.2.1.cell 0 (.int .i64 0) rfl
    have c1 := HSS.out.2.1.cell 1 (.int .i64 0) rfl
    have cf := HSS.out.2.1.frozen
    have p0 := HSS.out.2.2.1.cell 0 (.int .i64 0) rfl
    have p1 := HSS.out.2.2.1.cell 1 (.int .i64 0) rfl
    have pf := HSS.out.2.2.1.frozen
    go_wp2_with fail
    exact bodyPost_ret (v := .tuple #[.agg #[.int .i64 0, .int .i64 0], .int .i64 0, .int .i64 0, (.slice none 0 0), .bool false]) (by simp [results, Try.results40, go_sem, c0, c1]) rfl ⟨0, 0, 0, 0, (.slice none 0 0), by rw [HQ.out]; rfl, (by rw [HQ.out]; intro _ _ _ _ _ h; cases h), HSS.out.fin⟩
  · have HKY := hide hkk
    have HY : Hid (y.length ≤ 1048576) := hide (HW.out y (keyT_mem hkk).1)
    have HWR : Hid (∀ q ∈ R, q.length ≤ 1048576) := hide (fun q hq => HW.out q ((keyT_mem hkk).2 q hq))
    have HAR := hide har
    have HRL := hide hrl
    clear hkk har hrl HW HA HN
    by_cases hy : y = kAny
    · have HQ0 : Hid (sideQ key ps = portsQ 0 0 R) := hide (by unfold sideQ; rw [HKY.out]; simp only [if_pos hy])
      subst hy
      have eAny : bs kAny = ⟨#[97, 110, 121]⟩ := rfl
      rw [eAny]
      clear HKY HY eAny
      have c0 := HSS.out.2.1.cell 0 (.int .i64 0) rfl
      have c1 := HSS.out.2.1.cell 1 (.int .i64 0) rfl
      have cf := HSS.out.2.1.frozen
      have p0 := HSS.out.2.2.1.cell 0 (.int .i64 0) rfl
      have p1 := HSS.out.2.2.1.cell 1 (.int .i64 0) rfl
      have pf := HSS.out.2.2.1.frozen
      have KP := hide (key_walk2 w0 kPort R a2 (n - 2) (cap - 2) (u2.alloc (.cells #[.int .i64 0, .int .i64 0] 37)) HRL.out HAR.out (HB00.out.trans (HSS.out.1.mono HB00.out.size)) (by omega))
      go_wp2_with fail
      refine KP.out.mono ?_
      rintro e u4 ⟨hk, hb⟩
      have H4 := hide (HSS.out.next hb)
      clear hb KP c0 c1 cf p0 p1 pf
      rcases hk with ⟨hk, rfl⟩ | ⟨z, R4, a4, hk, rfl, har, hrl⟩
      · have HQ : Hid (sideQ key ps = some (0, 0, 0, 65535, R)) := hide (by rw [HQ0.out]; unfold portsQ; rw [hk])
        clear hk
        generalize hnX : n - 2 = nX at *
        generalize hcX : cap - 2 = cX at *
        have c0 := H4.out.2.1.cell 0 (.int .i64 0) rfl
        have c1 := H4.out.2.1.cell 1 (.int .i64 0) rfl
        have cf := H4.out.2.1.frozen
        have p0 := H4.out.2.2.1.cell 0 (.int .i64 0) rfl
        have p1 := H4.out.2.2.1.cell 1 (.int .i64 0) rfl
        have pf := H4.out.2.2.1.frozen
        go_wp2_with fail
        exact bodyPost_ret (v := .tuple #[.agg #[.int .i64 0, .int .i64 0], .int .i64 0, .int .i64 65535, (.slice a2 nX cX), .bool true]) (by simp [results, Try.results40, go_sem, c0, c1]) rfl ⟨0, 0, 0, 65535, (.slice a2 nX cX), by rw [HQ.out]; rfl, (by rw [HQ.out]; intro _ _ _ _ _ h; cases h; exact ⟨rfl, rfl, rfl, rfl, _, _, _, rfl, HAR.out, HRL.out, by omega⟩), H4.out.fin⟩
      · have HKQ := hide hk
        have HZ : Hid (z.length ≤ 1048576) := hide (HWR.out z (keyT_mem hk).1)
        have HA4 := hide har
        have HR4 := hide hrl
        clear hk har hrl
        have HPQ : Hid (sideQ key ps = match endsQ z with
          | none => none
          | some (lo, hi) => some (0, 0, lo, hi, R4)) := hide (by rw [HQ0.out]; unfold portsQ; rw [HKQ.out])
        have CC := hide (fun W => l02Cut_walk z 45 W HZ.out)
        go_wp2_with fail
        refine (CC.out _).mono ?_
        rintro e u5 ⟨vl, rfl, hol, hb⟩
        obtain ⟨ge, ce, hve, _, hge, _, hcells⟩ := hol.cellS (splitL_pos 45 z)
        have H5 := hide (H4.out.next hb)
        have e0 := hcells 0 _ (splitL_head 45 z)
        have eL := hcells _ _ (splitL_last 45 z)
        have HGE := hide hge
        have hep := splitL_pos 45 z
        have hel := splitL_len 45 z
        have HM0 : Hid (((splitL 45 z).headD []).length ≤ 1048576) := hide (Nat.le_trans (splitL_mem 45 z _ (List.mem_of_getElem? (splitL_head 45 z))) HZ.out)
        have HML : Hid (((splitL 45 z).getLastD []).length ≤ 1048576) := hide (Nat.le_trans (splitL_mem 45 z _ (List.mem_of_getElem? (splitL_last 45 z))) HZ.out)
        have HEQ : Hid (endsQ z = if numF ((splitL 45 z).headD []) 5 = true ∧ numF ((splitL 45 z).getLastD []) 5 = true ∧ (splitL 45 z).length ≤ 2 then some (numV ((splitL 45 z).headD []), numV ((splitL 45 z).getLastD [])) else none) := hide rfl
        subst hve
        clear hcells hb hol hge CC H4 HKQ
        generalize (splitL 45 z).headD [] = s0 at *
        generalize (splitL 45 z).getLastD [] = sL at *
        obtain ⟨kE, hkE⟩ : ∃ kE, (splitL 45 z).length = kE + 1 := ⟨(splitL 45 z).length - 1, by omega⟩
        rw [hkE] at eL HEQ hel ⊢
        rw [Nat.add_sub_cancel] at eL
        have hm20 : kE ≤ 1048576 := by have := HZ.out; omega
        clear hkE hel hep
        have CN0 := hide (fun W => numberG_walk s0 5 W HM0.out (by omega))
        have CNL := hide (fun W => numberG_walk sL 5 W HML.out (by omega))
        have hsub : IntKind.i64.wrap ((kE : Int) + 1 - 1) = (kE : Int) := by rw [IntKind.wrap_i64]; omega
        go_wp2_with fail
        refine (CN0.out _).mono ?_
        rintro e u6 ⟨n0, rfl, hn0, hb⟩
        have H6 := hide (H5.out.next hb)
        have eL6 : u6.cell? ⟨ge, kE, none⟩ = some (.string (bs sL)) := (hb.cell (p := ⟨ge, kE, none⟩) HGE.out).trans eL
        clear hb e0 eL H5 CN0
        have hkk1 : (kE : Int) < (kE : Int) + 1 := by omega
        go_wp2_with fail
        refine (CNL.out _).mono ?_
        rintro e u7 ⟨nL, rfl, hnL, hb⟩
        have H7 := hide (H6.out.next hb)
        clear hb eL6 H6 CNL
        generalize hnX : n - 2 - 2 = nX at *
        generalize hcX : cap - 2 - 2 = cX at *
        cases f0 : numF s0 5 with
        | false =>
          have HQ : Hid (sideQ key ps = none) := hide (by rw [HPQ.out, HEQ.out, if_neg (by rw [f0]; simp)])
          clear HPQ HEQ f0 hn0 hnL
          have c0 := H7.out.2.1.cell 0 (.int .i64 0) rfl
          have c1 := H7.out.2.1.cell 1 (.int .i64 0) rfl
          have cf := H7.out.2.1.frozen
          have p0 := H7.out.2.2.1.cell 0 (.int .i64 0) rfl
          have p1 := H7.out.2.2.1.cell 1 (.int .i64 0) rfl
          have pf := H7.out.2.2.1.frozen
          go_wp2_with fail
          exact bodyPost_ret (v := .tuple #[.agg #[.int .i64 0, .int .i64 0], .int .i64 n0, .int .i64 nL, (.slice a4 nX cX), .bool false]) (by simp [results, Try.results40, go_sem, c0, c1]) rfl ⟨0, 0, n0, nL, (.slice a4 nX cX), by rw [HQ.out]; rfl, (by rw [HQ.out]; intro _ _ _ _ _ h; cases h), H7.out.fin⟩
        | true =>
          have HN0 := hide (hn0 f0)
          cases fL : numF sL 5 with
          | false =>
            have HQ : Hid (sideQ key ps = none) := hide (by rw [HPQ.out, HEQ.out, if_neg (by rw [fL]; simp)])
            clear HPQ HEQ f0 hn0 hnL HN0 fL
            have c0 := H7.out.2.1.cell 0 (.int .i64 0) rfl
            have c1 := H7.out.2.1.cell 1 (.int .i64 0) rfl
            have cf := H7.out.2.1.frozen
            have p0 := H7.out.2.2.1.cell 0 (.int .i64 0) rfl
            have p1 := H7.out.2.2.1.cell 1 (.int .i64 0) rfl
            have pf := H7.out.2.2.1.frozen
            go_wp2_with fail
            exact bodyPost_ret (v := .tuple #[.agg #[.int .i64 0, .int .i64 0], .int .i64 n0, .int .i64 nL, (.slice a4 nX cX), .bool false]) (by simp [results, Try.results40, go_sem, c0, c1]) rfl ⟨0, 0, n0, nL, (.slice a4 nX cX), by rw [HQ.out]; rfl, (by rw [HQ.out]; intro _ _ _ _ _ h; cases h), H7.out.fin⟩
          | true =>
            have HNL := hide (hnL fL)
            by_cases hE : kE + 1 ≤ 2
            · have HQ : Hid (sideQ key ps = some (0, 0, numV s0, numV sL, R4)) := hide (by rw [HPQ.out, HEQ.out, if_pos ⟨f0, fL, hE⟩])
              have hEi : (kE : Int) + 1 ≤ 2 := by omega
              clear HPQ HEQ f0 hn0 hnL fL
              have c0 := H7.out.2.1.cell 0 (.int .i64 0) rfl
              have c1 := H7.out.2.1.cell 1 (.int .i64 0) rfl
              have cf := H7.out.2.1.frozen
              have p0 := H7.out.2.2.1.cell 0 (.int .i64 0) rfl
              have p1 := H7.out.2.2.1.cell 1 (.int .i64 0) rfl
              have pf := H7.out.2.2.1.frozen
              go_wp2_with fail
              exact bodyPost_ret (v := .tuple #[.agg #[.int .i64 0, .int .i64 0], .int .i64 n0, .int .i64 nL, (.slice a4 nX cX), .bool true]) (by simp [results, Try.results40, go_sem, c0, c1]) rfl ⟨0, 0, n0, nL, (.slice a4 nX cX), by rw [HQ.out]; rfl, (by rw [HQ.out]; intro _ _ _ _ _ h; cases h; exact ⟨rfl, rfl, HN0.out, HNL.out, _, _, _, rfl, HA4.out, HR4.out, by omega⟩), H7.out.fin⟩
            · have HQ : Hid (sideQ key ps = none) := hide (by rw [HPQ.out, HEQ.out, if_neg (fun h => hE h.2.2)])
              have hEi : decide ((kE : Int) + 1 ≤ 2) = false := decide_eq_false (by omega)
              clear HPQ HEQ f0 hn0 hnL fL hE
              have c0 := H7.out.2.1.cell 0 (.int .i64 0) rfl
              have c1 := H7.out.2.1.cell 1 (.int .i64 0) rfl
              have cf := H7.out.2.1.frozen
              have p0 := H7.out.2.2.1.cell 0 (.int .i64 0) rfl
              have p1 := H7.out.2.2.1.cell 1 (.int .i64 0) rfl
              have pf := H7.out.2.2.1.frozen
              go_wp2_with fail
              exact bodyPost_ret (v := .tuple #[.agg #[.int .i64 0, .int .i64 0], .int .i64 n0, .int .i64 nL, (.slice a4 nX cX), .bool false]) (by simp [results, Try.results40, go_sem, c0, c1]) rfl ⟨0, 0, n0, nL, (.slice a4 nX cX), by rw [HQ.out]; rfl, (by rw [HQ.out]; intro _ _ _ _ _ h; cases h), H7.out.fin⟩
    · have hyb : (!(bs y).toList == [97, 110, 121]) = true := by rw [bs_toList]; simpa using hy
      have CP := hide (fun W => specPref_walk y W HY.out)
      have HQ0 : Hid (sideQ key ps = if pfOK y = true then portsQ (pfA y) (pfB y) R else none) := hide (by unfold sideQ; rw [HKY.out]; simp only [if_neg hy])
      clear hy HKY
      have c0 := HSS.out.2.1.cell 0 (.int .i64 0) rfl
      have c1 := HSS.out.2.1.cell 1 (.int .i64 0) rfl
      have cf := HSS.out.2.1.frozen
      have p0 := HSS.out.2.2.1.cell 0 (.int .i64 0) rfl
      have p1 := HSS.out.2.2.1.cell 1 (.int .i64 0) rfl
      have pf := HSS.out.2.2.1.frozen
      go_wp2_with fail
      refine (CP.out _).mono ?_
      rintro e u3 ⟨rfl, hb⟩
      have HS3 := hide (HSS.out.next hb)
      clear hb HSS CP c0 c1 cf p0 p1 pf
      cases hp : pfOK y with
      | false =>
        have hC : pfC y = 6 := (pf_no hp).2.2
        have HQ : Hid (sideQ key ps = none) := hide (by rw [HQ0.out, if_neg (by rw [hp]; decide)])
        have HS4 : Hid (SS w ((u3.setCell ⟨u2.heap.size, 0, none⟩ (.int .i64 (pfA y))).setCell ⟨u2.heap.size, 1, none⟩ (.int .i64 (pfB y))) u2.heap.size #[.int .i64 (pfA y), .int .i64 (pfB y)]) := hide (SS.set2 HS3.out)
        rw [hC]
        generalize pfA y = A at *
        generalize pfB y = B at *
        clear hp hC HQ0
        have hne1 : ¬ (w.heap.size = u2.heap.size) := by have := HS3.out.2.2.2; omega
        have hne2 : ¬ (u2.heap.size = w.heap.size) := by have := HS3.out.2.2.2; omega
        have c0 := HS3.out.2.1.cell 0 (.int .i64 0) rfl
        have c1 := HS3.out.2.1.cell 1 (.int .i64 0) rfl
        have cf := HS3.out.2.1.frozen
        have p0 := HS3.out.2.2.1.cell 0 (.int .i64 0) rfl
        have p1 := HS3.out.2.2.1.cell 1 (.int .i64 0) rfl
        have pf := HS3.out.2.2.1.frozen
        go_wp2_with fail
        have c0 := HS4.out.2.1.cell 0 (.int .i64 0) rfl
        have c1 := HS4.out.2.1.cell 1 (.int .i64 0) rfl
        exact bodyPost_ret (v := .tuple #[.agg #[.int .i64 A, .int .i64 B], .int .i64 0, .int .i64 0, .slice none 0 0, .bool false]) (by simp [results, Try.results40, go_sem, c0, c1]) rfl ⟨A, B, 0, 0, .slice none 0 0, by rw [HQ.out]; rfl, (by rw [HQ.out]; intro _ _ _ _ _ h; cases h), HS4.out.fin⟩
      | true =>
        have hC : pfC y = 0 := by unfold pfC; rw [hp]; rfl
        have HQ1 : Hid (sideQ key ps = portsQ (pfA y) (pfB y) R) := hide (by rw [HQ0.out, if_pos hp])
        have HS4 : Hid (SS w ((u3.setCell ⟨u2.heap.size, 0, none⟩ (.int .i64 (pfA y))).setCell ⟨u2.heap.size, 1, none⟩ (.int .i64 (pfB y))) u2.heap.size #[.int .i64 (pfA y), .int .i64 (pfB y)]) := hide (SS.set2 HS3.out)
        rw [hC]
        generalize pfA y = A at *
        generalize pfB y = B at *
        clear hp hC HQ0
        have hne1 : ¬ (w.heap.size = u2.heap.size) := by have := HS3.out.2.2.2; omega
        have hne2 : ¬ (u2.heap.size = w.heap.size) := by have := HS3.out.2.2.2; omega
        have c0 := HS3.out.2.1.cell 0 (.int .i64 0) rfl
        have c1 := HS3.out.2.1.cell 1 (.int .i64 0) rfl
        have cf := HS3.out.2.1.frozen
        have p0 := HS3.out.2.2.1.cell 0 (.int .i64 0) rfl
        have p1 := HS3.out.2.2.1.cell 1 (.int .i64 0) rfl
        have pf := HS3.out.2.2.1.frozen
        have KP := hide (key_walk2 w0 kPort R a2 (n - 2) (cap - 2) ((u3.setCell ⟨u2.heap.size, 0, none⟩ (.int .i64 A)).setCell ⟨u2.heap.size, 1, none⟩ (.int .i64 B)) HRL.out HAR.out (HB00.out.trans (HS4.out.1.mono HB00.out.size)) (by omega))
        go_wp2_with fail
        refine KP.out.mono ?_
        rintro e u4 ⟨hk, hb⟩
        have H4 := hide (HS4.out.next hb)
        clear hb KP c0 c1 cf p0 p1 pf
        rcases hk with ⟨hk, rfl⟩ | ⟨z, R4, a4, hk, rfl, har, hrl⟩
        · have HQ : Hid (sideQ key ps = some (A, B, 0, 65535, R)) := hide (by rw [HQ1.out]; unfold portsQ; rw [hk])
          clear hk
          generalize hnX : n - 2 = nX at *
          generalize hcX : cap - 2 = cX at *
          have c0 := H4.out.2.1.cell 0 (.int .i64 0) rfl
          have c1 := H4.out.2.1.cell 1 (.int .i64 0) rfl
          have cf := H4.out.2.1.frozen
          have p0 := H4.out.2.2.1.cell 0 (.int .i64 A) rfl
          have p1 := H4.out.2.2.1.cell 1 (.int .i64 B) rfl
          have pf := H4.out.2.2.1.frozen
          go_wp2_with fail
          exact bodyPost_ret (v := .tuple #[.agg #[.int .i64 A, .int .i64 B], .int .i64 0, .int .i64 65535, (.slice a2 nX cX), .bool true]) (by simp [results, Try.results40, go_sem, c0, c1]) rfl ⟨A, B, 0, 65535, (.slice a2 nX cX), by rw [HQ.out]; rfl, (by rw [HQ.out]; intro _ _ _ _ _ h; cases h; exact ⟨rfl, rfl, rfl, rfl, _, _, _, rfl, HAR.out, HRL.out, by omega⟩), H4.out.fin⟩
        · have HKQ := hide hk
          have HZ : Hid (z.length ≤ 1048576) := hide (HWR.out z (keyT_mem hk).1)
          have HA4 := hide har
          have HR4 := hide hrl
          clear hk har hrl
          have HPQ : Hid (sideQ key ps = match endsQ z with
            | none => none
            | some (lo, hi) => some (A, B, lo, hi, R4)) := hide (by rw [HQ1.out]; unfold portsQ; rw [HKQ.out])
          have CC := hide (fun W => l02Cut_walk z 45 W HZ.out)
          go_wp2_with fail
          refine (CC.out _).mono ?_
          rintro e u5 ⟨vl, rfl, hol, hb⟩
          obtain ⟨ge, ce, hve, _, hge, _, hcells⟩ := hol.cellS (splitL_pos 45 z)
          have H5 := hide (H4.out.next hb)
          have e0 := hcells 0 _ (splitL_head 45 z)
          have eL := hcells _ _ (splitL_last 45 z)
          have HGE := hide hge
          have hep := splitL_pos 45 z
          have hel := splitL_len 45 z
          have HM0 : Hid (((splitL 45 z).headD []).length ≤ 1048576) := hide (Nat.le_trans (splitL_mem 45 z _ (List.mem_of_getElem? (splitL_head 45 z))) HZ.out)
          have HML : Hid (((splitL 45 z).getLastD []).length ≤ 1048576) := hide (Nat.le_trans (splitL_mem 45 z _ (List.mem_of_getElem? (splitL_last 45 z))) HZ.out)
          have HEQ : Hid (endsQ z = if numF ((splitL 45 z).headD []) 5 = true ∧ numF ((splitL 45 z).getLastD []) 5 = true ∧ (splitL 45 z).length ≤ 2 then some (numV ((splitL 45 z).headD []), numV ((splitL 45 z).getLastD [])) else none) := hide rfl
          subst hve
          clear hcells hb hol hge CC H4 HKQ
          generalize (splitL 45 z).headD [] = s0 at *
          generalize (splitL 45 z).getLastD [] = sL at *
          obtain ⟨kE, hkE⟩ : ∃ kE, (splitL 45 z).length = kE + 1 := ⟨(splitL 45 z).length - 1, by omega⟩
          rw [hkE] at eL HEQ hel ⊢
          rw [Nat.add_sub_cancel] at eL
          have hm20 : kE ≤ 1048576 := by have := HZ.out; omega
          clear hkE hel hep
          have CN0 := hide (fun W => numberG_walk s0 5 W HM0.out (by omega))
          have CNL := hide (fun W => numberG_walk sL 5 W HML.out (by omega))
          have hsub : IntKind.i64.wrap ((kE : Int) + 1 - 1) = (kE : Int) := by rw [IntKind.wrap_i64]; omega
          go_wp2_with fail
          refine (CN0.out _).mono ?_
          rintro e u6 ⟨n0, rfl, hn0, hb⟩
          have H6 := hide (H5.out.next hb)
          have eL6 : u6.cell? ⟨ge, kE, none⟩ = some (.string (bs sL)) := (hb.cell (p := ⟨ge, kE, none⟩) HGE.out).trans eL
          clear hb e0 eL H5 CN0
          have hkk1 : (kE : Int) < (kE : Int) + 1 := by omega
          go_wp2_with fail
          refine (CNL.out _).mono ?_
          rintro e u7 ⟨nL, rfl, hnL, hb⟩
          have H7 := hide (H6.out.next hb)
          clear hb eL6 H6 CNL
          generalize hnX : n - 2 - 2 = nX at *
          generalize hcX : cap - 2 - 2 = cX at *
          cases f0 : numF s0 5 with
          | false =>
            have HQ : Hid (sideQ key ps = none) := hide (by rw [HPQ.out, HEQ.out, if_neg (by rw [f0]; simp)])
            clear HPQ HEQ f0 hn0 hnL
            have c0 := H7.out.2.1.cell 0 (.int .i64 0) rfl
            have c1 := H7.out.2.1.cell 1 (.int .i64 0) rfl
            have cf := H7.out.2.1.frozen
            have p0 := H7.out.2.2.1.cell 0 (.int .i64 A) rfl
            have p1 := H7.out.2.2.1.cell 1 (.int .i64 B) rfl
            have pf := H7.out.2.2.1.frozen
            go_wp2_with fail
            exact bodyPost_ret (v := .tuple #[.agg #[.int .i64 A, .int .i64 B], .int .i64 n0, .int .i64 nL, (.slice a4 nX cX), .bool false]) (by simp [results, Try.results40, go_sem, c0, c1]) rfl ⟨A, B, n0, nL, (.slice a4 nX cX), by rw [HQ.out]; rfl, (by rw [HQ.out]; intro _ _ _ _ _ h; cases h), H7.out.fin⟩
          | true =>
            have HN0 := hide (hn0 f0)
            cases fL : numF sL 5 with
            | false =>
              have HQ : Hid (sideQ key ps = none) := hide (by rw [HPQ.out, HEQ.out, if_neg (by rw [fL]; simp)])
              clear HPQ HEQ f0 hn0 hnL HN0 fL
              have c0 := H7.out.2.1.cell 0 (.int .i64 0) rfl
              have c1 := H7.out.2.1.cell 1 (.int .i64 0) rfl
              have cf := H7.out.2.1.frozen
              have p0 := H7.out.2.2.1.cell 0 (.int .i64 A) rfl
              have p1 := H7.out.2.2.1.cell 1 (.int .i64 B) rfl
              have pf := H7.out.2.2.1.frozen
              go_wp2_with fail
              exact bodyPost_ret (v := .tuple #[.agg #[.int .i64 A, .int .i64 B], .int .i64 n0, .int .i64 nL, (.slice a4 nX cX), .bool false]) (by simp [results, Try.results40, go_sem, c0, c1]) rfl ⟨A, B, n0, nL, (.slice a4 nX cX), by rw [HQ.out]; rfl, (by rw [HQ.out]; intro _ _ _ _ _ h; cases h), H7.out.fin⟩
            | true =>
              have HNL := hide (hnL fL)
              by_cases hE : kE + 1 ≤ 2
              · have HQ : Hid (sideQ key ps = some (A, B, numV s0, numV sL, R4)) := hide (by rw [HPQ.out, HEQ.out, if_pos ⟨f0, fL, hE⟩])
                have hEi : (kE : Int) + 1 ≤ 2 := by omega
                clear HPQ HEQ f0 hn0 hnL fL
                have c0 := H7.out.2.1.cell 0 (.int .i64 0) rfl
                have c1 := H7.out.2.1.cell 1 (.int .i64 0) rfl
                have cf := H7.out.2.1.frozen
                have p0 := H7.out.2.2.1.cell 0 (.int .i64 A) rfl
                have p1 := H7.out.2.2.1.cell 1 (.int .i64 B) rfl
                have pf := H7.out.2.2.1.frozen
                go_wp2_with fail
                exact bodyPost_ret (v := .tuple #[.agg #[.int .i64 A, .int .i64 B], .int .i64 n0, .int .i64 nL, (.slice a4 nX cX), .bool true]) (by simp [results, Try.results40, go_sem, c0, c1]) rfl ⟨A, B, n0, nL, (.slice a4 nX cX), by rw [HQ.out]; rfl, (by rw [HQ.out]; intro _ _ _ _ _ h; cases h; exact ⟨rfl, rfl, HN0.out, HNL.out, _, _, _, rfl, HA4.out, HR4.out, by omega⟩), H7.out.fin⟩
              · have HQ : Hid (sideQ key ps = none) := hide (by rw [HPQ.out, HEQ.out, if_neg (fun h => hE h.2.2)])
                have hEi : decide ((kE : Int) + 1 ≤ 2) = false := decide_eq_false (by omega)
                clear HPQ HEQ f0 hn0 hnL fL hE
                have c0 := H7.out.2.1.cell 0 (.int .i64 0) rfl
                have c1 := H7.out.2.1.cell 1 (.int .i64 0) rfl
                have cf := H7.out.2.1.frozen
                have p0 := H7.out.2.2.1.cell 0 (.int .i64 A) rfl
                have p1 := H7.out.2.2.1.cell 1 (.int .i64 B) rfl
                have pf := H7.out.2.2.1.frozen
                go_wp2_with fail
                exact bodyPost_ret (v := .tuple #[.agg #[.int .i64 A, .int .i64 B], .int .i64 n0, .int .i64 nL, (.slice a4 nX cX), .bool false]) (by simp [results, Try.results40, go_sem, c0, c1]) rfl ⟨A, B, n0, nL, (.slice a4 nX cX), by rw [HQ.out]; rfl, (by rw [HQ.out]; intro _ _ _ _ _ h; cases h), H7.out.fin⟩
end Go.Proofs.Ytgegnkboibgbgaa
