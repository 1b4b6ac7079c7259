/-
Contracts of functions of this seat.
-/
import Derived.Test.YtgegnkboibgbgaaRows
import Derived.WalkKit
import Derived.ProofKit
import Derived.OpenShut
import Derived.Test.YtgegnkboibgbgaaRr3
import Derived.Test.YtgegnkboibgbgaaWds
import Derived.Test.YtgegnkboibgbgaaNmw
import Derived.Test.YtgegnkboibgbgaaSdx
import Derived.Test.YtgegnkboibgbgaaRds
namespace Go.Proofs.Ytgegnkboibgbgaa
open Go.ChangeShapes Go.WideShapes Go.ChangeAt Go.RowKit
set_option linter.unusedVariables false
set_option maxRecDepth 100000
/-- The number that a word stands for. -/
def nmF : List (ByteArray × Int) → ByteArray → Option Int
  | [], _ => none
  | (s, n) :: r, x => if s = x then some n else nmF r x
theorem nmF_at {L : List (ByteArray × Int)} {k : Nat} (hk : k < L.length) (x : ByteArray) : nmF (L.drop k) x = if (L.getD k (⟨#[]⟩, 0)).1 = x then some (L.getD k (⟨#[]⟩, 0)).2 else nmF (L.drop (k + 1)) x := by
  rw [List.drop_eq_getElem_cons hk, List.getD_eq_getElem?_getD, List.getElem?_eq_getElem hk]
  rfl
theorem Lst.grown {w w' : World} {g off p : Nat} {L : List (ByteArray × Int)} (h : Lst w g off L) (hg : w.grownBy w' (some p)) (hp : g ≠ p) (hl : g < w.heap.size) : Lst w' g off L := by
  intro k hk
  have hb := hg.block g hl (by intro e; cases e; exact hp rfl)
  obtain ⟨c0, c1⟩ := h k hk
  simp only [World.cell?] at c0 c1 ⊢
  rw [hb]
  exact ⟨c0, c1⟩
theorem str_eq_iff (s t : ByteArray) : (s.toList == t.toList) = true ↔ s = t := by
  constructor
  · intro h
    exact ByteArray.ext (Array.toList_inj.1 (by have := (beq_iff_eq.1 h); rw [ByteArray.toList_eq, ByteArray.toList_eq] at this; exact this))
  · rintro rfl; simp
set_option maxHeartbeats 4000000 in
theorem takeNamed_walk (w : World) (p N : Nat) (ps : List (List UInt8)) (ill : Bool) (g n : Nat) (L : List (ByteArray × Int)) (hl : ps.length ≤ 1048576) (h : Phr w p N ps ill) (hn : L.length = n) (hm : n ≤ 1000) (hL : Lst w g 0 L) (hg : g < w.heap.size) (hgp : g ≠ p) :
    Calls Try.prog 42 #[.pointer (some ⟨p, 0, none⟩), .slice (some ⟨g, 0, none⟩) n n] w fun e w' => e = .returned (.int .i64 ((nmF L (bs (tkW ps ill))).getD 0)) ∧ Phr w' p N (tkR ps ill) (tkI ps ill || (nmF L (bs (tkW ps ill))).isNone) ∧ w.grownBy w' (some p) := by
  have CT := hide (phrase_take w p N ps ill hl h)
  have HL0 := hide hL
  have HN := hide hn
  have HG := hide hg
  have HGP := hide hgp
  generalize bs (tkW ps ill) = x at *
  generalize tkR ps ill = R0 at *
  generalize tkI ps ill = I0 at *
  clear h hl hL hn hg hgp
  go_enter Try.func42, Try.ntmps42
  go_wp2_with fail
  refine CT.out.mono ?_
  rintro e w1 ⟨rfl, hp1, hg1⟩
  have HP1 := hide hp1
  have HG1 := hide hg1
  have HL1 := hide (HL0.out.grown hg1 HGP.out HG.out)
  have HGS : Hid (g < w1.heap.size) := hide (Nat.lt_of_lt_of_le HG.out hg1.size)
  clear hp1 hg1 CT HL0 HG
  go_wp2_with fail
  go_loopw [12] (fun t w2 => ∃ k : Nat, k ≤ n ∧ t = .int .i64 k ∧ Hid (Below w1.heap.size w1 w2) ∧ Hid (nmF L x = nmF (L.drop k) x)) (fun t _ => n - (intOf t).toNat)
  case atStart => exact ⟨0, Nat.zero_le _, rfl, hide (Below.refl _ _), hide rfl⟩
  case round =>
    obtain ⟨k, hk, rfl, HB, HE⟩ := hrel
    by_cases hlt : k < n
    · obtain ⟨c0, c1⟩ := (HL1.out.below HB.out HGS.out) k (by rw [HN.out]; exact hlt)
      rw [Nat.zero_add] at c0 c1
      have HS := hide (nmF_at (L := L) (k := k) (by rw [HN.out]; exact hlt) x)
      generalize (L.getD k (⟨#[]⟩, 0)).1 = s at *
      generalize (L.getD k (⟨#[]⟩, 0)).2 = y at *
      have HB2 : Hid (Below w1.heap.size w1 (wr.alloc (.cells #[.string s, .int .i64 y] 94))) := hide (HB.out.alloc HB.out.size _)
      by_cases hy : s = x
      · have E : Hid (nmF L x = some y) := hide (by rw [HE.out, HS.out, if_pos hy])
        have hyb : (s.toList == x.toList) = true := (str_eq_iff s x).2 hy
        clear hy
        go_wp2_with fail
        go_ret
        exact ⟨by rw [E.out]; rfl, by rw [E.out]; simp only [Option.isNone_some, Bool.or_false]; exact HP1.out.next HB2.out, grown_below HG1.out HB2.out⟩
      · have E : Hid (nmF L x = nmF (L.drop (k + 1)) x) := hide (by rw [HE.out, HS.out, if_neg hy])
        have hyb : (s.toList == x.toList) = false := by rw [Bool.eq_false_iff]; exact fun h => hy ((str_eq_iff s x).1 h)
        clear hy
        go_wp2_with fail
        exact ⟨⟨k + 1, by omega, by go_num, HB2, E⟩, by simp [intOf]; omega⟩
    · have hkn : k = n := by omega
      subst hkn
      have E : Hid (nmF L x = none) := hide (by rw [HE.out, List.drop_eq_nil_of_le (by rw [HN.out]; exact Nat.le_refl _)]; rfl)
      have CD := hide (phrase_demand wr p N R0 I0 false (HP1.out.next HB.out))
      go_wp2_with fail
      refine CD.out.mono ?_
      rintro e w3 ⟨rfl, hp3, hg3⟩
      have HF := hide (And.intro hp3 (grown_trans (grown_below HG1.out HB.out) hg3))
      clear hp3 hg3
      go_wp2_with fail
      go_ret
      exact ⟨by rw [E.out]; rfl, by rw [E.out]; exact HF.out.1, HF.out.2⟩

/-- What takeAnyPrefix tells, and what is left then. -/
def apA (ps : List (List UInt8)) (ill : Bool) : Int := if psB kAny ps ill = true then 0 else pfA (tkW ps ill)
def apB (ps : List (List UInt8)) (ill : Bool) : Int := if psB kAny ps ill = true then 0 else pfB (tkW ps ill)
def apR (ps : List (List UInt8)) (ill : Bool) : List (List UInt8) := if psB kAny ps ill = true then psR kAny ps ill else tkR ps ill
def apI (ps : List (List UInt8)) (ill : Bool) : Bool := if psB kAny ps ill = true then ill else (tkI ps ill || !pfOK (tkW ps ill))
set_option maxHeartbeats 4000000 in
theorem takeAny_walk (w : World) (p N : Nat) (ps : List (List UInt8)) (ill : Bool) (hl : ps.length ≤ 1048576) (hw : ∀ q ∈ ps, q.length ≤ 1048576) (hN : N ≤ w.heap.size) (h : Phr w p N ps ill) :
    Calls Try.prog 46 #[.pointer (some ⟨p, 0, none⟩)] w fun e w' => e = .returned (.agg #[.int .i64 (apA ps ill), .int .i64 (apB ps ill)]) ∧ Phr w' p N (apR ps ill) (apI ps ill) ∧ w.grownBy w' (some p) := by
  have hpw : p < w.heap.size := h.lt
  have HP0 := hide (h.next ((Below.refl w.heap.size w).alloc (Nat.le_refl _) (.cells #[.int .i64 0, .int .i64 0] 37)))
  have HG0 : Hid (w.grownBy (w.alloc (.cells #[.int .i64 0, .int .i64 0] 37)) (some p)) := hide (World.grownBy_alloc w _ _)
  have HR0 : Hid (HoldV (w.alloc (.cells #[.int .i64 0, .int .i64 0] 37)) w.heap.size #[.int .i64 0, .int .i64 0] 37) := hide (heap_alloc_new _ _)
  have CP := hide (phrase_passes _ p N ps ill kAny hl HP0.out)
  cases hb : psB kAny ps ill with
  | true =>
    have EA : Hid (apA ps ill = 0 ∧ apB ps ill = 0 ∧ apR ps ill = psR kAny ps ill ∧ apI ps ill = ill) := hide (by unfold apA apB apR apI; rw [hb]; simp)
    rw [hb] at CP
    clear hw h hb
    go_enter Try.func46, Try.ntmps46
    go_wp2_with fail
    refine CP.out.mono ?_
    rintro e w1 ⟨rfl, hp1, hg1⟩
    have HG1 := hide (grown_trans HG0.out hg1)
    have HR1 : Hid (HoldV w1 w.heap.size #[.int .i64 0, .int .i64 0] 37) := hide ((show w1.heap[w.heap.size]? = _ from hg1.block _ HR0.out.lt (by intro e; cases e; omega)).trans HR0.out)
    have r0 := HR1.out.cell 0 (.int .i64 0) rfl
    have r1 := HR1.out.cell 1 (.int .i64 0) rfl
    have rf := HR1.out.frozen
    have HP1 := hide ((hp1.other (i := 0) (y := .int .i64 0) (show w.heap.size ≠ p by omega) hN).other (i := 1) (y := .int .i64 0) (show w.heap.size ≠ p by omega) hN)
    clear hp1 hg1
    go_wp2_with fail
    exact bodyPost_ret (v := .agg #[.int .i64 0, .int .i64 0]) (by simp [results, Try.results46, go_sem, r0, r1]) rfl ⟨by rw [EA.out.1, EA.out.2.1], by rw [EA.out.2.2.1, EA.out.2.2.2]; exact HP1.out, grown_set (grown_set HG1.out (p := ⟨w.heap.size, 0, none⟩) (Nat.le_refl _) _) (p := ⟨w.heap.size, 1, none⟩) (Nat.le_refl _) _⟩
  | false =>
    have EA : Hid (apA ps ill = pfA (tkW ps ill) ∧ apB ps ill = pfB (tkW ps ill) ∧ apR ps ill = tkR ps ill ∧ apI ps ill = (tkI ps ill || !pfOK (tkW ps ill))) := hide (by unfold apA apB apR apI; rw [hb]; simp)
    have hr : psR kAny ps ill = ps := by unfold psR; rw [hb]; rfl
    rw [hb, hr] at CP
    have HW := hide hw
    clear hw h hb hr
    go_enter Try.func46, Try.ntmps46
    go_wp2_with fail
    refine CP.out.mono ?_
    rintro e w1 ⟨rfl, hp1, hg1⟩
    have HG1 := hide (grown_trans HG0.out hg1)
    have HR1 : Hid (HoldV w1 w.heap.size #[.int .i64 0, .int .i64 0] 37) := hide ((show w1.heap[w.heap.size]? = _ from hg1.block _ HR0.out.lt (by intro e; cases e; omega)).trans HR0.out)
    have CX := hide (phrase_prefix w1 p N ps ill hl HW.out (by have := HG1.out.size; omega) hp1)
    clear hp1 hg1 CP HP0 HG0 HR0
    generalize pfA (tkW ps ill) = A at *
    generalize pfB (tkW ps ill) = B at *
    go_wp2_with fail
    refine CX.out.mono ?_
    rintro e w2 ⟨rfl, hp2, hg2⟩
    have HG2 := hide (grown_trans HG1.out hg2)
    have HR2 : Hid (HoldV w2 w.heap.size #[.int .i64 0, .int .i64 0] 37) := hide ((show w2.heap[w.heap.size]? = _ from hg2.block _ HR1.out.lt (by intro e; cases e; omega)).trans HR1.out)
    have r0 := HR2.out.cell 0 (.int .i64 0) rfl
    have r1 := HR2.out.cell 1 (.int .i64 0) rfl
    have rf := HR2.out.frozen
    have HP2 := hide ((hp2.other (i := 0) (y := .int .i64 A) (show w.heap.size ≠ p by omega) hN).other (i := 1) (y := .int .i64 B) (show w.heap.size ≠ p by omega) hN)
    clear hp2 hg2
    go_wp2_with fail
    exact bodyPost_ret (v := .agg #[.int .i64 A, .int .i64 B]) (by simp [results, Try.results46, go_sem, r0, r1]) rfl ⟨by rw [EA.out.1, EA.out.2.1], by rw [EA.out.2.2.1, EA.out.2.2.2]; exact HP2.out, grown_set (grown_set HG2.out (p := ⟨w.heap.size, 0, none⟩) (Nat.le_refl _) _) (p := ⟨w.heap.size, 1, none⟩) (Nat.le_refl _) _⟩

/-- A word cut at its first dash; the same twice, where it has none. -/
def cuA (z : List UInt8) : List UInt8 := upTo 45 z
def cuB (z : List UInt8) : List UInt8 := if 45 ∈ z then past 45 z else z
/-- What takePorts tells, and what is left then. -/
def tpW (ps : List (List UInt8)) (ill : Bool) : List UInt8 := tkW (psR kPort ps ill) ill
def tpL (ps : List (List UInt8)) (ill : Bool) : Int := if psB kPort ps ill = true then numX (cuA (tpW ps ill)) 65535 else 0
def tpH (ps : List (List UInt8)) (ill : Bool) : Int := if psB kPort ps ill = true then numX (cuB (tpW ps ill)) 65535 else 65535
def tpR (ps : List (List UInt8)) (ill : Bool) : List (List UInt8) := if psB kPort ps ill = true then tkR (psR kPort ps ill) ill else ps
def tpI (ps : List (List UInt8)) (ill : Bool) : Bool := if psB kPort ps ill = true then (tkI (psR kPort ps ill) ill || !(numOK (cuA (tpW ps ill)) 65535 && numOK (cuB (tpW ps ill)) 65535)) else ill
theorem cuA_len (z : List UInt8) (h : z.length ≤ 1048576) : (cuA z).length ≤ 1048576 := Nat.le_trans (upTo_len 45 z) h
theorem cuB_len (z : List UInt8) (h : z.length ≤ 1048576) : (cuB z).length ≤ 1048576 := by
  unfold cuB
  split
  · have := past_len 45 z; omega
  · exact h
theorem cut_dash_yes (l : List UInt8) (w : World) (hl : l.length ≤ 1048576) (h : 45 ∈ l) :
    Calls Try.prog 55 #[.string (bs l), .string (bs [45])] w fun e w' => e = .returned (.tuple #[.string (bs (cuA l)), .string (bs (cuB l)), .bool true]) ∧ Below w.heap.size w w' := by
  have e : cuB l = past 45 l := by unfold cuB; rw [if_pos h]
  rw [e]
  unfold cuA
  obtain ⟨a, b, rfl, hna⟩ := List.eq_append_cons_of_mem h
  rw [(upTo_yes 45 a b hna).1, (upTo_yes 45 a b hna).2]
  exact cut_yes a b 45 w hl hna
theorem cut_dash_no (l : List UInt8) (w : World) (h : 45 ∉ l) :
    Calls Try.prog 55 #[.string (bs l), .string (bs [45])] w fun e w' => e = .returned (.tuple #[.string (bs (cuA l)), .string (bs []), .bool false]) ∧ Below w.heap.size w w' := by
  unfold cuA
  rw [(upTo_no 45 l h).1]
  exact cut_no l 45 w h
theorem cuB_no {l : List UInt8} (h : 45 ∉ l) : cuB l = cuA l := by unfold cuB cuA; rw [if_neg h, (upTo_no 45 l h).1]
set_option maxHeartbeats 4000000 in
theorem takePorts_walk (w : World) (p N : Nat) (ps : List (List UInt8)) (ill : Bool) (hl : ps.length ≤ 1048576) (hw : ∀ q ∈ ps, q.length ≤ 1048576) (h : Phr w p N ps ill) :
    Calls Try.prog 47 #[.pointer (some ⟨p, 0, none⟩)] w fun e w' => e = .returned (.tuple #[.int .i64 (tpL ps ill), .int .i64 (tpH ps ill)]) ∧ Phr w' p N (tpR ps ill) (tpI ps ill) ∧ w.grownBy w' (some p) := by
  have CP := hide (phrase_passes w p N ps ill kPort hl h)
  cases hb : psB kPort ps ill with
  | false =>
    have EA : Hid (tpL ps ill = 0 ∧ tpH ps ill = 65535 ∧ tpR ps ill = ps ∧ tpI ps ill = ill) := hide (by unfold tpL tpH tpR tpI; rw [hb]; simp)
    have hr : psR kPort ps ill = ps := by unfold psR; rw [hb]; rfl
    rw [hb, hr] at CP
    clear hw h hb hr
    go_enter Try.func47, Try.ntmps47
    go_wp2_with fail
    refine CP.out.mono ?_
    rintro e w1 ⟨rfl, hp1, hg1⟩
    have HF := hide (And.intro hp1 hg1)
    clear hp1 hg1
    go_wp2_with fail
    go_ret2
    exact ⟨by rw [EA.out.1, EA.out.2.1]; rfl, by rw [EA.out.2.2.1, EA.out.2.2.2]; exact HF.out.1, HF.out.2⟩
  | true =>
    have HQ := hide (psR_sub kPort ps ill)
    have EA : Hid (tpL ps ill = numX (cuA (tpW ps ill)) 65535 ∧ tpH ps ill = numX (cuB (tpW ps ill)) 65535 ∧ tpR ps ill = tkR (psR kPort ps ill) ill ∧ tpI ps ill = (tkI (psR kPort ps ill) ill || !(numOK (cuA (tpW ps ill)) 65535 && numOK (cuB (tpW ps ill)) 65535))) := hide (by unfold tpL tpH tpR tpI; rw [hb]; simp)
    rw [hb] at CP
    have HL0 : Hid ((psR kPort ps ill).length ≤ 1048576) := hide (Nat.le_trans HQ.out.1 hl)
    have HLW : Hid ((tpW ps ill).length ≤ 1048576) := hide (tkW_len (ill := ill) (fun q hq => hw q (HQ.out.2 q hq)))
    have HTW : Hid (tkW (psR kPort ps ill) ill = tpW ps ill) := hide rfl
    have CT := hide (fun W (hW : Phr W p N (psR kPort ps ill) ill) => phrase_take W p N (psR kPort ps ill) ill HL0.out hW)
    rw [HTW.out] at CT
    generalize tpW ps ill = Z at *
    generalize tkR (psR kPort ps ill) ill = R1 at *
    generalize tkI (psR kPort ps ill) ill = I1 at *
    clear hw h hb hl HTW HQ HL0
    have CA := hide (fun W => decimal_walk (cuA Z) 65535 W (cuA_len Z HLW.out) (by omega))
    have CB := hide (fun W => decimal_walk (cuB Z) 65535 W (cuB_len Z HLW.out) (by omega))
    by_cases hd : 45 ∈ Z
    · have CC := hide (fun W => cut_dash_yes Z W HLW.out hd)
      clear hd
      generalize cuA Z = ZA at *
      generalize cuB Z = ZB at *
      generalize numX ZA 65535 = XA at *
      generalize numX ZB 65535 = XB at *
      generalize numOK ZA 65535 = OA at *
      generalize numOK ZB 65535 = OB at *
      go_enter Try.func47, Try.ntmps47
      go_wp2_with fail
      refine CP.out.mono ?_
      rintro e w1 ⟨rfl, hp1, hg1⟩
      have CT1 := hide (CT.out w1 hp1)
      have HG1 := hide hg1
      clear hp1 hg1 CP CT
      go_wp2_with fail
      refine CT1.out.mono ?_
      rintro e w2 ⟨rfl, hp2, hg2⟩
      have HP2 := hide hp2
      have HG2 := hide (grown_trans HG1.out hg2)
      clear hp2 hg2 CT1 HG1
      go_wp2_with fail
      refine (CC.out _).mono ?_
      rintro e w3 ⟨rfl, hb3⟩
      have HP3 := hide (HP2.out.next hb3)
      have HG3 := hide (grown_below HG2.out hb3)
      clear hb3 HP2 HG2 CC
      go_wp2_with fail
      refine (CA.out _).mono ?_
      rintro e w4 ⟨rfl, hw4⟩
      rw [hw4]
      clear hw4 CA
      go_wp2_with fail
      refine (CB.out _).mono ?_
      rintro e w4 ⟨rfl, hw4⟩
      rw [hw4]
      clear hw4 CB
      have CD := hide (phrase_demand w3 p N R1 I1 (OA && OB) HP3.out)
      cases OA with
      | true =>
        rw [Bool.true_and] at CD
        go_wp2_with fail
        refine CD.out.mono ?_
        rintro e w5 ⟨rfl, hp5, hg5⟩
        have HF := hide (And.intro hp5 (grown_trans HG3.out hg5))
        clear hp5 hg5
        go_wp2_with fail
        go_ret2
        exact ⟨by rw [EA.out.1, EA.out.2.1]; rfl, by rw [EA.out.2.2.1, EA.out.2.2.2, Bool.true_and]; exact HF.out.1, HF.out.2⟩
      | false =>
        rw [Bool.false_and] at CD
        go_wp2_with fail
        refine CD.out.mono ?_
        rintro e w5 ⟨rfl, hp5, hg5⟩
        have HF := hide (And.intro hp5 (grown_trans HG3.out hg5))
        clear hp5 hg5
        go_wp2_with fail
        go_ret2
        exact ⟨by rw [EA.out.1, EA.out.2.1]; rfl, by rw [EA.out.2.2.1, EA.out.2.2.2, Bool.false_and]; exact HF.out.1, HF.out.2⟩
    · have CC := hide (fun W => cut_dash_no Z W hd)
      rw [cuB_no hd] at EA
      clear hd CB
      generalize cuA Z = ZA at *
      generalize numX ZA 65535 = XA at *
      generalize numOK ZA 65535 = OA at *
      go_enter Try.func47, Try.ntmps47
      go_wp2_with fail
      refine CP.out.mono ?_
      rintro e w1 ⟨rfl, hp1, hg1⟩
      have CT1 := hide (CT.out w1 hp1)
      have HG1 := hide hg1
      clear hp1 hg1 CP CT
      go_wp2_with fail
      refine CT1.out.mono ?_
      rintro e w2 ⟨rfl, hp2, hg2⟩
      have HP2 := hide hp2
      have HG2 := hide (grown_trans HG1.out hg2)
      clear hp2 hg2 CT1 HG1
      go_wp2_with fail
      refine (CC.out _).mono ?_
      rintro e w3 ⟨rfl, hb3⟩
      have HP3 := hide (HP2.out.next hb3)
      have HG3 := hide (grown_below HG2.out hb3)
      clear hb3 HP2 HG2 CC
      go_wp2_with fail
      refine (CA.out _).mono ?_
      rintro e w4 ⟨rfl, hw4⟩
      rw [hw4]
      clear hw4
      go_wp2_with fail
      refine (CA.out _).mono ?_
      rintro e w4 ⟨rfl, hw4⟩
      rw [hw4]
      clear hw4 CA
      have CD := hide (phrase_demand w3 p N R1 I1 OA HP3.out)
      cases OA with
      | true =>
        go_wp2_with fail
        refine CD.out.mono ?_
        rintro e w5 ⟨rfl, hp5, hg5⟩
        have HF := hide (And.intro hp5 (grown_trans HG3.out hg5))
        clear hp5 hg5
        go_wp2_with fail
        go_ret2
        exact ⟨by rw [EA.out.1, EA.out.2.1]; rfl, by rw [EA.out.2.2.1, EA.out.2.2.2]; exact HF.out.1, HF.out.2⟩
      | false =>
        go_wp2_with fail
        refine CD.out.mono ?_
        rintro e w5 ⟨rfl, hp5, hg5⟩
        have HF := hide (And.intro hp5 (grown_trans HG3.out hg5))
        clear hp5 hg5
        go_wp2_with fail
        go_ret2
        exact ⟨by rw [EA.out.1, EA.out.2.1]; rfl, by rw [EA.out.2.2.1, EA.out.2.2.2]; exact HF.out.1, HF.out.2⟩

abbrev kFrom : List UInt8 := [102, 114, 111, 109]
abbrev kTo : List UInt8 := [116, 111]
abbrev lActs : List UInt8 := [45, 32, 112, 97, 115, 115, 32, 100, 114, 111, 112, 32, 114, 101, 106, 101, 99, 116]
abbrev lDirs : List UInt8 := [45, 32, 105, 110, 32, 111, 117, 116, 32, 98, 111, 116, 104]
abbrev lStates : List UInt8 := [97, 110, 121, 32, 110, 101, 119, 32, 107, 110, 111, 119, 110, 32, 114, 101, 108, 97, 116, 101, 100, 32, 115, 116, 114, 97, 121]
def ruFin (A D P sa sb sl sh da db dl dh S : Int) : Option (List Int) := if ruOK A D P sa sb sl sh da db dl dh S = true then some [A, D, P, sa, sb, sl, sh, da, db, dl, dh, S] else none
/-- The end of a rule's line: perhaps a state. -/
def ruEnd (A D P sa sb sl sh da db dl dh : Int) : List (List UInt8) → Option (List Int)
  | [] => ruFin A D P sa sb sl sh da db dl dh 0
  | [s] => if placeL (splitL 32 lStates) s 0 < 1 then none else ruFin A D P sa sb sl sh da db dl dh (placeL (splitL 32 lStates) s 0)
  | _ => none
/-- A rule's numbers out of a line's words (written after the model's l09Rule). -/
def ruP : List (List UInt8) → Option (List Int)
  | a :: d :: p :: r => if r.length < 4 then none else match protoQ p with
    | none => none
    | some P => match sideQ kFrom r with
      | none => none
      | some (sa, sb, sl, sh, r1) => match sideQ kTo r1 with
        | none => none
        | some (da, db, dl, dh, r2) => ruEnd (placeL (splitL 32 lActs) a 0) (placeL (splitL 32 lDirs) d 0) P sa sb sl sh da db dl dh r2
  | _ => none
theorem ruFin_len {A D P sa sb sl sh da db dl dh S : Int} {zs : List Int} (h : ruFin A D P sa sb sl sh da db dl dh S = some zs) : zs.length = 12 := by
  unfold ruFin at h
  split at h
  · cases h; rfl
  · cases h
theorem ruEnd_len {A D P sa sb sl sh da db dl dh : Int} {r : List (List UInt8)} {zs : List Int} (h : ruEnd A D P sa sb sl sh da db dl dh r = some zs) : zs.length = 12 := by
  cases r with
  | nil => exact ruFin_len (show ruFin A D P sa sb sl sh da db dl dh 0 = some zs from h)
  | cons s r =>
    cases r with
    | nil =>
      have h' : (if placeL (splitL 32 lStates) s 0 < 1 then none else ruFin A D P sa sb sl sh da db dl dh (placeL (splitL 32 lStates) s 0)) = some zs := h
      by_cases hs : placeL (splitL 32 lStates) s 0 < 1
      · rw [if_pos hs] at h'; cases h'
      · rw [if_neg hs] at h'; exact ruFin_len h'
    | cons s2 r => exact absurd (show (none : Option (List Int)) = some zs from h) (by simp)
theorem ruP_len {ws : List (List UInt8)} {zs : List Int} (h : ruP ws = some zs) : zs.length = 12 := by
  match ws, h with
  | [], h => exact absurd (show (none : Option (List Int)) = some zs from h) (by simp)
  | [_], h => exact absurd (show (none : Option (List Int)) = some zs from h) (by simp)
  | [_, _], h => exact absurd (show (none : Option (List Int)) = some zs from h) (by simp)
  | a :: d :: p :: r, h =>
    simp only [ruP] at h
    by_cases hl : r.length < 4
    · rw [if_pos hl] at h; cases h
    · rw [if_neg hl] at h
      cases hp : protoQ p with
      | none => rw [hp] at h; cases h
      | some P =>
        rw [hp] at h
        cases hs : sideQ kFrom r with
        | none => rw [hs] at h; cases h
        | some v =>
          obtain ⟨sa, sb, sl, sh, r1⟩ := v
          rw [hs] at h
          simp only at h
          cases ht : sideQ kTo r1 with
          | none => rw [ht] at h; cases h
          | some u =>
            obtain ⟨da, db, dl, dh, r2⟩ := u
            rw [ht] at h
            exact ruEnd_len h
/-- What is wanted of reading a rule's words. -/
def LPu (w : World) (ps : List (List UInt8)) (e : Ending) (w' : World) : Prop := ∃ r0 r1 r2 r3 r4 r5 r6 r7 r8 r9 r10 r11 : Int, e = .returned (.tuple #[.agg #[.int .i64 r0, .int .i64 r1, .int .i64 r2, .int .i64 r3, .int .i64 r4, .int .i64 r5, .int .i64 r6, .int .i64 r7, .int .i64 r8, .int .i64 r9, .int .i64 r10, .int .i64 r11], .bool (ruP ps).isSome]) ∧ (∀ v, ruP ps = some v → v = [r0, r1, r2, r3, r4, r5, r6, r7, r8, r9, r10, r11]) ∧ Below w.heap.size w w'
theorem twelve_cells (w : World) (y0 y1 y2 y3 y4 y5 y6 y7 y8 y9 y10 y11 : Int) (t : Nat) : ∀ (j : Nat) u, (ival [y0, y1, y2, y3, y4, y5, y6, y7, y8, y9, y10, y11])[j]? = some u → (w.alloc (.cells #[.int .i64 y0, .int .i64 y1, .int .i64 y2, .int .i64 y3, .int .i64 y4, .int .i64 y5, .int .i64 y6, .int .i64 y7, .int .i64 y8, .int .i64 y9, .int .i64 y10, .int .i64 y11] t)).cell? ((⟨w.heap.size, 0, none⟩ : Addr).add j) = some u := by
  intro j u hu
  have h := fun k => cell_of_row (w.alloc (.cells #[.int .i64 y0, .int .i64 y1, .int .i64 y2, .int .i64 y3, .int .i64 y4, .int .i64 y5, .int .i64 y6, .int .i64 y7, .int .i64 y8, .int .i64 y9, .int .i64 y10, .int .i64 y11] t)) w.heap.size k #[.int .i64 y0, .int .i64 y1, .int .i64 y2, .int .i64 y3, .int .i64 y4, .int .i64 y5, .int .i64 y6, .int .i64 y7, .int .i64 y8, .int .i64 y9, .int .i64 y10, .int .i64 y11] t (0, 0) (heap_alloc_new w _)
  match j with
  | 0 => rw [Addr.add_lit]; exact (h 0).trans hu
  | 1 => rw [Addr.add_lit]; exact (h 1).trans hu
  | 2 => rw [Addr.add_lit]; exact (h 2).trans hu
  | 3 => rw [Addr.add_lit]; exact (h 3).trans hu
  | 4 => rw [Addr.add_lit]; exact (h 4).trans hu
  | 5 => rw [Addr.add_lit]; exact (h 5).trans hu
  | 6 => rw [Addr.add_lit]; exact (h 6).trans hu
  | 7 => rw [Addr.add_lit]; exact (h 7).trans hu
  | 8 => rw [Addr.add_lit]; exact (h 8).trans hu
  | 9 => rw [Addr.add_lit]; exact (h 9).trans hu
  | 10 => rw [Addr.add_lit]; exact (h 10).trans hu
  | 11 => rw [Addr.add_lit]; exact (h 11).trans hu
  | k + 12 => simp [ival] at hu
end Go.Proofs.Ytgegnkboibgbgaa
