/-
Contracts of functions of this seat.
-/
import Derived.Test.YthbkhfiadkookaaGreatDoorRows
import Derived.WalkKit
import Derived.ProofKit
import Derived.OpenShut
import Derived.Deep.QuietTactic
import Derived.Below
import Derived.Laws.Externs
import Derived.OwnWalk
import Derived.BigQuiet
import Derived.ArgAppend
import Derived.RegionTactic
import Derived.ChangeAlike
import Derived.Laws.IdiomStrings
import Derived.Laws.BytesArg
import Derived.Deep.RegionHeld3
import Derived.Deep.CutRange
import Derived.LaidEql
import Derived.Stop.Asserts
import Derived.RowKitTokens
import Derived.Laws.CopyOwn
import Derived.Laws.OwnMore
import Derived.StillTailTactics
import Derived.Lib.QuietBelow
import Derived.Test.YthbkhfiadkookaaGreatDoorPi
namespace Go.Proofs.YthbkhfiadkookaaGreatDoor
open Go.ChangeShapes Go.WideShapes Go.ChangeAt Go.RowKit
set_option linter.unusedVariables false
set_option maxRecDepth 100000
set_option maxRecDepth 100000
theorem arr_of_own {w : World} {B n cap : Nat} {a : Option Addr} {zs : List Int} (h : OwnB w B (.slice a n cap) zs) : Arr w a zs ∧ zs.length = n := own_arr h
set_option maxHeartbeats 4000000 in
theorem l01Sub_walk (a : Option Addr) (n cap : Nat) (c : Int) (zs : List Int) (w : World) (hn : zs.length = n) (ha : Arr w a zs) (hm : n ≤ 2097151) (hc0 : 0 ≤ c) (hc1 : c ≤ 255) :
    Calls Tryz.prog 14 #[.slice a n cap, .int .u8 c] w fun e w' => ∃ (st : Int) (a' : Option Addr) (m cap' : Nat) (ys : List Int), e = .returned (.agg #[.slice a' m cap', .int .i64 0, .int .u64 st]) ∧ ys.length = m ∧ m ≤ 2097152 ∧ 0 ≤ st ∧ st ≤ 18446744073709551615 ∧ Arr w' a' ys ∧ Below w.heap.size w w' := by
  obtain ⟨i, hi, hz0, hz1, hz2⟩ := info_parts Tryz.infoB
  obtain ⟨hb2, hbX, hbO⟩ := two_allocs w (.cells #[.slice none 0 0, .int .i64 0, .int .u64 0] srT) (.cells #[.int .u8 c] 5)
  have hO0 : OwnB ((w.alloc (.cells #[.slice none 0 0, .int .i64 0, .int .u64 0] srT)).alloc (.cells #[.int .u8 c] 5)) (w.heap.size + 1) (.slice (some ⟨w.heap.size + 1, 0, none⟩) 1 1) [c] := by
    have h := World.ownsRow_lit (base := w.heap.size + 1) (e := 5) (size := 1) (w.alloc (.cells #[.slice none 0 0, .int .i64 0, .int .u64 0] srT)) #[.int .u8 c] 1 (by rw [World.size_alloc]; omega) (by decide) rfl
    rw [World.size_alloc] at h
    exact ⟨h, by intro z hz; simp at hz; subst hz; exact ⟨hc0, hc1⟩⟩
  have HB0 := hide hb2
  have HX0 : Hid (HoldV _ w.heap.size #[.slice none 0 0, .int .i64 0, .int .u64 0] srT) := hide hbX
  have HO0 := hide hO0
  have HN := hide hn
  have HA := hide ha
  clear hb2 hbX hbO hO0 hn ha
  go_enter Tryz.func14, Tryz.ntmps14
  go_wp2_with fail
  generalize (w.alloc (.cells #[.slice none 0 0, .int .i64 0, .int .u64 0] srT)).alloc (.cells #[.int .u8 c] 5) = W0 at *
  go_loopw [5, 6] (fun o t w2 => ∃ (k : Nat) (ys : List Int), k ≤ n ∧ t = .int .i64 (k : Int) ∧ ys.length = k + 1 ∧ Hid (OwnB w2 (w.heap.size + 1) o ys) ∧ Hid (Below w.heap.size w w2) ∧ Hid (HoldV w2 w.heap.size #[.slice none 0 0, .int .i64 0, .int .u64 0] srT)) (fun _ t _ => n - (intOf t).toNat)
  case atStart => exact ⟨0, [c], Nat.zero_le _, rfl, rfl, HO0, HB0, HX0⟩
  case round =>
    obtain ⟨k, ys, hk, rfl, hy, HO, HB, HX⟩ := hrel
    have HY := hide hy
    clear hy
    by_cases hlt : k < n
    · obtain ⟨b, off, rfl, hbs, hc2⟩ := HA.out.2 k (by rw [HN.out]; exact hlt)
      have hcell : wr.cell? ⟨b, off + k, none⟩ = some (.int .u8 (zs.getD k 0)) := by rw [HB.out.cell (p := ⟨b, off + k, none⟩) hbs]; exact hc2
      have hbd := getD_bd HA.out.1 k
      generalize zs.getD k 0 = z at *
      clear hc2 hbs
      have hsz := HX.out.lt
      go_wp2_with (first | (at_builtin; refine wpList_append_own _ rfl _ _ 22 rfl (w.heap.size + 1) 5 i _ 1 1 Tryz.underlying22 hi hz0 hz1 hz2 rfl (by decide) u5 ys.length (bval ys) rfl (HO.out.1.alloc _) ⟨wr.heap.size, 0, none⟩ 1 1 (bval [_]) rfl rfl (cell_one _ _ _) (oneCells _) (by have := HY.out; unfold maxLen; omega) (by have := HY.out; omega) (by rw [World.size_alloc]; omega) ?_))
      intro v' w3 hown' hgrow hnil
      have hlo := HO.out.1.lt
      have HO3 := hide (OwnB.app hown' rfl HO.out.2 (by intro y hy; simp at hy; subst hy; exact hbd))
      have hb3 : Below (w.heap.size + 1) (wr.alloc (.cells #[.int .u8 z] 5)) w3 := (Below.refl _ _).grown hgrow (by rw [World.size_alloc]; omega) (fun k hk => (hlo k hk).1)
      have hb4 : Below (w.heap.size + 1) wr w3 := ((Below.refl _ _).alloc (by omega) _).trans hb3
      have HB3 := hide (HB.out.trans (hb4.mono (by omega)))
      have HX3 := hide (HX.out.below hb4 (Nat.lt_succ_self _))
      clear hown' hnil hgrow hlo hb3 hb4 hcell
      go_wp2_with fail
      exact ⟨⟨k + 1, ys ++ [z], by omega, by go_num, by rw [List.length_append, HY.out]; rfl, HO3, HB3, HX3⟩, by simp [intOf]; omega⟩
    · have hk' : k = n := by omega
      subst hk'
      obtain ⟨oa, oc, hov, _⟩ := own_slice HO.out
      generalize hyn : ys.length = m at *
      subst hov
      have hab := arr_of_own HO.out
      have CB := hide (l01Begin_walk oa m oc ys wr hab.2 hab.1 (by have := HY.out; omega))
      have HAB := hide hab
      clear hab hyn
      go_wp2_with fail
      refine CB.out.mono ?_
      clear CB
      rintro e w1 ⟨st, rfl, s0, s1, hb1⟩
      have hx := HX.out.next hb1
      have c0 := hx.cell 0 _ rfl
      have c1 := hx.cell 1 _ rfl
      have c2 := hx.cell 2 _ rfl
      have cf := hx.frozen
      have hlt1 := HX.out.lt
      have HZ := hide ((((HB.out.trans (hb1.mono (by omega))).setCell (p := ⟨w.heap.size, 0, none⟩) (Nat.le_refl _) (.slice oa m oc)).setCell (p := ⟨w.heap.size, 1, none⟩) (Nat.le_refl _) (.int .i64 0)).setCell (p := ⟨w.heap.size, 2, none⟩) (Nat.le_refl _) (.int .u64 st))
      have HO1 := hide (((HO.out.nx hb1).gr2 (gset (gset (gset (grown_refl w1 (some w.heap.size)) 0 (.slice oa m oc)) 1 (.int .i64 0)) 2 (.int .u64 st)) (fun k hk => by have := (HO.out.1.lt k hk).1; omega)))
      clear hb1 hx
      go_wp2_with fail
      exact bodyPost_ret (v := .agg #[.slice oa m oc, .int .i64 0, .int .u64 st]) (by simp [results, Tryz.results14, go_sem, c0, c1, c2]) rfl ⟨st, oa, m, oc, ys, rfl, HAB.out.2, by have := HY.out; omega, s0, s1, (arr_of_own HO1.out).1, HZ.out⟩

set_option maxHeartbeats 16000000 in
theorem drawCom_walk (a : Option Addr) (n cap : Nat) (zs : List Int) (w : World) (hn : zs.length = n) (ha : Arr w a zs) (hm : n ≤ 2097151) :
    Calls Tryz.prog 4 #[.slice a n cap] w fun e w' => ∃ (v : Value) (fr kd cd rs : Int), e = .returned (.tuple #[v, .int .i64 fr, .int .i64 kd, .int .i64 cd, .int .i64 rs]) ∧ PkV w' w.heap.size v 44 65516 ∧ Below w.heap.size w w' := by
  have hb0 : Below w.heap.size w (w.alloc (.cells #[.int .i64 0, .int .i64 0, .bool false, .bool false, .int .i64 0, .int .i64 0, .int .i64 0, .int .i64 0, .int .i64 0, .slice none 0 0, .slice none 0 0] pkT)) := (Below.refl _ _).alloc (Nat.le_refl _) _
  have HX0 : Hid (HoldV (w.alloc (.cells #[.int .i64 0, .int .i64 0, .bool false, .bool false, .int .i64 0, .int .i64 0, .int .i64 0, .int .i64 0, .int .i64 0, .slice none 0 0, .slice none 0 0] pkT)) w.heap.size #[.int .i64 0, .int .i64 0, .bool false, .bool false, .int .i64 0, .int .i64 0, .int .i64 0, .int .i64 0, .int .i64 0, .slice none 0 0, .slice none 0 0] pkT) := hide (heap_alloc_new _ _)
  have HB0 := hide hb0
  have HA0 := hide (ha.below hb0 (Nat.le_refl _))
  have HN := hide hn
  clear hb0 ha hn
  go_enter Tryz.func4, Tryz.ntmps4
  go_wp2_with fail
  generalize w.alloc (.cells #[.int .i64 0, .int .i64 0, .bool false, .bool false, .int .i64 0, .int .i64 0, .int .i64 0, .int .i64 0, .int .i64 0, .slice none 0 0, .slice none 0 0] pkT) = W0 at *
  refine (l01Sub_walk a n cap 2 zs W0 HN.out HA0.out hm (by omega) (by omega)).mono ?_
  rintro e w1 ⟨st, sa, sn, sc, ss, rfl, hsn, hsm, st0, st1, hsarr, hb1⟩
  have HB1 := hide (HB0.out.trans (hb1.mono (by have := HX0.out.lt; omega)))
  have HX1 := hide (HX0.out.next hb1)
  have HA1 := hide (HA0.out.below hb1 (Nat.le_refl _))
  have HSA := hide hsarr
  have HSN := hide hsn
  clear hb1 HB0 HX0 HA0 hsarr hsn
  have hal : Below w1.heap.size w1 (w1.alloc (.cells #[.slice sa sn sc, .int .i64 0, .int .u64 st] srT)) := (Below.refl _ _).alloc (Nat.le_refl _) _
  have hsr : SrcA (w1.alloc (.cells #[.slice sa sn sc, .int .i64 0, .int .u64 st] srT)) w1.heap.size srT sn sa sc := ⟨0, st, heap_alloc_new _ _, by omega, by omega, st0, st1⟩
  have hxlt := HX1.out.lt
  have HX2 := hide (HX1.out.next hal)
  have HB2 := hide (HB1.out.trans (hal.mono (by omega)))
  have HA2 := hide (HA1.out.below hal (Nat.le_refl _))
  have HSA2 := hide (HSA.out.below hal (Nat.le_refl _))
  have hsz : (w1.alloc (.cells #[.slice sa sn sc, .int .i64 0, .int .u64 st] srT)).heap.size = w1.heap.size + 1 := World.size_alloc _ _
  have HS2 := hide hsr
  clear hsr hal HX1 HB1 HA1 HSA
  go_wp2_with fail
  generalize w1.alloc (.cells #[.slice sa sn sc, .int .i64 0, .int .u64 st] srT) = W2 at *
  generalize hX : w.heap.size = X at *
  generalize hg : w1.heap.size = g at *
  rw [← HSN.out] at HS2
  have hl : ss.length ≤ 2097152 := by rw [HSN.out]; exact hsm
  have HSZ := hide hsz
  clear hsz hg
  refine (drawMay_walk a n cap zs W2 HN.out HA2.out (by omega)).mono ?_
  rintro e w3 ⟨v, rfl, ⟨x0, x1, x2, x3, x4, x5, x6, x7, x8, u0, u1, ys, z, rfl, hy, hz, hq, hO, hap⟩, hb3⟩
  have HD3 := hide ((DSr.start HSA2.out HS2.out).next hb3)
  have HX3 := hide (HX2.out.next hb3)
  obtain ⟨qa, qc, hu0, _⟩ := own_slice hq
  obtain ⟨ua, uc, hu1, _⟩ := own_slice hO
  have HYL := hide hy
  have HZL := hide hz
  clear hy hz
  generalize hyn : ys.length = yn at *
  generalize hzn : z.length = zn at *
  have HYN := hide hyn
  have HZN := hide hzn
  clear hyn hzn
  subst hu0 hu1
  have hal : Below w3.heap.size w3 (w3.alloc (.cells #[.int .i64 x0, .int .i64 x1, .bool x2, .bool x3, .int .i64 x4, .int .i64 x5, .int .i64 x6, .int .i64 x7, .int .i64 x8, .slice qa yn qc, .slice ua zn uc] pkT)) := (Below.refl _ _).alloc (Nat.le_refl _) _
  have HP4 : Hid (HoldV (w3.alloc (.cells #[.int .i64 x0, .int .i64 x1, .bool x2, .bool x3, .int .i64 x4, .int .i64 x5, .int .i64 x6, .int .i64 x7, .int .i64 x8, .slice qa yn qc, .slice ua zn uc] pkT)) w3.heap.size #[.int .i64 x0, .int .i64 x1, .bool x2, .bool x3, .int .i64 x4, .int .i64 x5, .int .i64 x6, .int .i64 x7, .int .i64 x8, .slice qa yn qc, .slice ua zn uc] pkT) := hide (heap_alloc_new _ _)
  have HD4 := hide (HD3.out.next hal)
  have HX4 := hide (HX3.out.next hal)
  have HQ4 := hide (hq.nx hal)
  have HO4 := hide (hO.nx hal)
  have hw3 := hb3.size
  have hsz3 := HSZ.out
  have HAP := hide hap
  have hP4 : (w3.alloc (.cells #[.int .i64 x0, .int .i64 x1, .bool x2, .bool x3, .int .i64 x4, .int .i64 x5, .int .i64 x6, .int .i64 x7, .int .i64 x8, .slice qa yn qc, .slice ua zn uc] pkT)).heap.size = w3.heap.size + 1 := World.size_alloc _ _
  have HSP := hide hP4
  clear hal hq hO hap hb3 HD3 HX3 hP4
  go_upto_region 3 with fail
  generalize w3.alloc (.cells #[.int .i64 x0, .int .i64 x1, .bool x2, .bool x3, .int .i64 x4, .int .i64 x5, .int .i64 x6, .int .i64 x7, .int .i64 x8, .slice qa yn qc, .slice ua zn uc] pkT) = w4 at *
  generalize hP : w3.heap.size = P at *
  have hPg : g < P := by omega
  have hBP : W2.heap.size ≤ P := by omega
  have hgB : g < W2.heap.size := by omega
  have hXg : X < g := by omega
  clear hP hw3 hsz3 hxlt
  have hal : Below w4.heap.size w4 (w4.alloc (.cells #[.int .i64 3, .int .i64 11, .int .i64 3, .int .i64 11, .int .i64 8] 2)) := (Below.refl _ _).alloc (Nat.le_refl _) _
  have HL5 : Hid (HoldV (w4.alloc (.cells #[.int .i64 3, .int .i64 11, .int .i64 3, .int .i64 11, .int .i64 8] 2)) w4.heap.size #[.int .i64 3, .int .i64 11, .int .i64 3, .int .i64 11, .int .i64 8] 2) := hide (heap_alloc_new _ _)
  have HP5 := hide (HP4.out.next hal)
  have HD5 := hide (HD4.out.next hal)
  have HX5 := hide (HX4.out.next hal)
  have HQ5 := hide (HQ4.out.nx hal)
  have HO5 := hide (HO4.out.nx hal)
  clear hal HP4 HD4 HX4 HQ4 HO4
  go_wp2_with fail
  generalize w4.alloc (.cells #[.int .i64 3, .int .i64 11, .int .i64 3, .int .i64 11, .int .i64 8] 2) = w5 at *
  generalize hL : w4.heap.size = L at *
  have hLg : L ≠ g := by have := HSP.out; omega
  clear hL HSP
  refine (l01Next_walk g 5 ss _ sa sc HD5.out.1 HD5.out.2.1 (by omega) (by omega) hl).mono ?_
  rintro e w6 ⟨k5, rfl, k50, k51, hg1, hs1⟩
  have HD6 := hide (HD5.out.step hg1 hs1); have HP6 := hide (HP5.out.gr hg1 (show P ≠ g by omega)); have HX6 := hide (HX5.out.gr hg1 (show X ≠ g by omega)); have HQ6 := hide (HQ5.out.gr hg1 hgB); have HO6 := hide (HO5.out.gr hg1 hgB)
  have hL6 := HL5.out.gr hg1 hLg
  have l0 := hL6.cell 0 _ rfl; have l1 := hL6.cell 1 _ rfl; have l2 := hL6.cell 2 _ rfl; have l3 := hL6.cell 3 _ rfl; have l4 := hL6.cell 4 _ rfl
  clear hL6 HL5
  clear hg1 hs1 HD5 HP5 HX5 HQ5 HO5
  obtain ⟨kd, hkd⟩ : ∃ kd : Int, w6.cell? ⟨L, k5.toNat, none⟩ = some (.int .i64 kd) := by
    rcases (show k5 = 0 ∨ k5 = 1 ∨ k5 = 2 ∨ k5 = 3 ∨ k5 = 4 by omega) with rfl | rfl | rfl | rfl | rfl
    · exact ⟨_, l0⟩
    · exact ⟨_, l1⟩
    · exact ⟨_, l2⟩
    · exact ⟨_, l3⟩
    · exact ⟨_, l4⟩
  clear l0 l1 l2 l3 l4
  obtain ⟨kk, rfl⟩ := Int.eq_ofNat_of_zero_le k50
  rw [Int.toNat_natCast] at hkd
  have kk5 : kk < 5 := by omega
  go_wp2_with fail
  clear hkd
  refine (l02Host_walk g ss _ sa sc HD6.out.1 HD6.out.2.1 hl).mono ?_
  rintro e w7 ⟨fr, rfl, _, _, hg1, hs1⟩
  have HD7 := hide (HD6.out.step hg1 hs1); have HP7 := hide (HP6.out.gr hg1 (show P ≠ g by omega)); have HX7 := hide (HX6.out.gr hg1 (show X ≠ g by omega)); have HQ7 := hide (HQ6.out.gr hg1 hgB); have HO7 := hide (HO6.out.gr hg1 hgB)
  clear hg1 hs1 HD6 HP6 HX6 HQ6 HO6
  go_wp2_with fail
  refine (l01Next_walk g 14 ss _ sa sc HD7.out.1 HD7.out.2.1 (by omega) (by omega) hl).mono ?_
  rintro e w8 ⟨cd, rfl, _, _, hg1, hs1⟩
  have HD8 := hide (HD7.out.step hg1 hs1); have HP8 := hide (HP7.out.gr hg1 (show P ≠ g by omega)); have HX8 := hide (HX7.out.gr hg1 (show X ≠ g by omega)); have HQ8 := hide (HQ7.out.gr hg1 hgB); have HO8 := hide (HO7.out.gr hg1 hgB)
  clear hg1 hs1 HD7 HP7 HX7 HQ7 HO7
  go_wp2_with fail
  refine (l01Next_walk g 1500 ss _ sa sc HD8.out.1 HD8.out.2.1 (by omega) (by omega) hl).mono ?_
  rintro e w9 ⟨rs, rfl, _, _, hg1, hs1⟩
  have HD9 := hide (HD8.out.step hg1 hs1); have HP9 := hide (HP8.out.gr hg1 (show P ≠ g by omega)); have HX9 := hide (HX8.out.gr hg1 (show X ≠ g by omega)); have HQ9 := hide (HQ8.out.gr hg1 hgB); have HO9 := hide (HO8.out.gr hg1 hgB)
  clear hg1 hs1 HD8 HP8 HX8 HQ8 HO8
  go_wp2_with fail
  refine (l01Next_walk g 16 ss _ sa sc HD9.out.1 HD9.out.2.1 (by omega) (by omega) hl).mono ?_
  rintro e wa ⟨r, rfl, r0, r1, hg1, hs1⟩
  have HDa := hide (HD9.out.step hg1 hs1); have HPa := hide (HP9.out.gr hg1 (show P ≠ g by omega)); have HXa := hide (HX9.out.gr hg1 (show X ≠ g by omega)); have HQa := hide (HQ9.out.gr hg1 hgB); have HOa := hide (HO9.out.gr hg1 hgB)
  clear hg1 hs1 HD9 HP9 HX9 HQ9 HO9
  have hx0 := HPa.out.cell 0 _ rfl; have hx1 := HPa.out.cell 1 _ rfl; have hx2 := HPa.out.cell 2 _ rfl; have hx3 := HPa.out.cell 3 _ rfl; have hx4 := HPa.out.cell 4 _ rfl; have hx5 := HPa.out.cell 5 _ rfl; have hx6 := HPa.out.cell 6 _ rfl; have hx7 := HPa.out.cell 7 _ rfl; have hx8 := HPa.out.cell 8 _ rfl; have hx9 := HPa.out.cell 9 _ rfl; have hx10 := HPa.out.cell 10 _ rfl
  have hr0 := HXa.out.cell 0 _ rfl; have hr1 := HXa.out.cell 1 _ rfl; have hr2 := HXa.out.cell 2 _ rfl; have hr3 := HXa.out.cell 3 _ rfl; have hr4 := HXa.out.cell 4 _ rfl; have hr5 := HXa.out.cell 5 _ rfl; have hr6 := HXa.out.cell 6 _ rfl; have hr7 := HXa.out.cell 7 _ rfl; have hr8 := HXa.out.cell 8 _ rfl; have hr9 := HXa.out.cell 9 _ rfl; have hr10 := HXa.out.cell 10 _ rfl; have hrf := HXa.out.frozen
  have hGN : World.grownBy wa (((((((((((wa.setCell ⟨X, 0, none⟩ (.int .i64 x0)).setCell ⟨X, 1, none⟩ (.int .i64 x1)).setCell ⟨X, 2, none⟩ (.bool x2)).setCell ⟨X, 3, none⟩ (.bool x3)).setCell ⟨X, 4, none⟩ (.int .i64 x4)).setCell ⟨X, 5, none⟩ (.int .i64 x5)).setCell ⟨X, 6, none⟩ (.int .i64 x6)).setCell ⟨X, 7, none⟩ (.int .i64 x7)).setCell ⟨X, 8, none⟩ (.int .i64 x8)).setCell ⟨X, 9, none⟩ (.slice qa yn qc)).setCell ⟨X, 10, none⟩ (.slice ua zn uc)) (some X) := set11 _ X _ _ _ _ _ _ _ _ _ _ _
  have HOz := hide ((HOa.out.gr2 hGN (own_ne HOa.out HXa.out (by decide))).low (show X ≤ W2.heap.size by omega))
  have HQz := hide ((HQa.out.gr2 hGN (own_ne HQa.out HXa.out (by decide))).low (show X ≤ W2.heap.size by omega))
  have HBz := hide ((HB2.out.trans (below_grown (show X ≤ g by omega) (show X ≤ W2.heap.size by omega) HDa.out.2.2.1)).trans (below_grown (Nat.le_refl X) (by have := HXa.out.lt; omega) hGN))
  clear hGN
  rcases (show r = 0 ∨ r = 1 ∨ r = 2 ∨ 3 ≤ r by omega) with rfl | rfl | rfl | hr
  · -- 0
    go_wp2_with fail
    subst hX
    exact bodyPost_ret (v := .tuple #[.agg #[.int .i64 x0, .int .i64 x1, .bool x2, .bool x3, .int .i64 x4, .int .i64 x5, .int .i64 x6, .int .i64 x7, .int .i64 x8, .slice qa yn qc, .slice ua zn uc], .int .i64 (-1), .int .i64 kd, .int .i64 cd, .int .i64 rs]) (by simp [results, Tryz.results4, go_sem, hr0, hr1, hr2, hr3, hr4, hr5, hr6, hr7, hr8, hr9, hr10]) rfl ⟨_, _, _, _, _, rfl, ⟨_, _, _, _, _, _, _, _, _, _, _, ys, z, rfl, by have := HYL.out; have := HYN.out; omega, by have := HZL.out; have := HZN.out; omega, HQz.out, HOz.out, HAP.out⟩, HBz.out⟩
  · -- 1
    go_wp2_with fail
    subst hX
    exact bodyPost_ret (v := .tuple #[.agg #[.int .i64 x0, .int .i64 x1, .bool x2, .bool x3, .int .i64 x4, .int .i64 x5, .int .i64 x6, .int .i64 x7, .int .i64 x8, .slice qa yn qc, .slice ua zn uc], .int .i64 fr, .int .i64 kd, .int .i64 256, .int .i64 rs]) (by simp [results, Tryz.results4, go_sem, hr0, hr1, hr2, hr3, hr4, hr5, hr6, hr7, hr8, hr9, hr10]) rfl ⟨_, _, _, _, _, rfl, ⟨_, _, _, _, _, _, _, _, _, _, _, ys, z, rfl, by have := HYL.out; have := HYN.out; omega, by have := HZL.out; have := HZN.out; omega, HQz.out, HOz.out, HAP.out⟩, HBz.out⟩
  · -- 2
    go_wp2_with fail
    subst hX
    exact bodyPost_ret (v := .tuple #[.agg #[.int .i64 x0, .int .i64 x1, .bool x2, .bool x3, .int .i64 x4, .int .i64 x5, .int .i64 x6, .int .i64 x7, .int .i64 x8, .slice qa yn qc, .slice ua zn uc], .int .i64 fr, .int .i64 kd, .int .i64 cd, .int .i64 (-1)]) (by simp [results, Tryz.results4, go_sem, hr0, hr1, hr2, hr3, hr4, hr5, hr6, hr7, hr8, hr9, hr10]) rfl ⟨_, _, _, _, _, rfl, ⟨_, _, _, _, _, _, _, _, _, _, _, ys, z, rfl, by have := HYL.out; have := HYN.out; omega, by have := HZL.out; have := HZN.out; omega, HQz.out, HOz.out, HAP.out⟩, HBz.out⟩
  · -- 3
    have b0 : (r == 0) = false := beq_eq_false_iff_ne.2 (by omega); have b1 : (r == 1) = false := beq_eq_false_iff_ne.2 (by omega); have b2 : (r == 2) = false := beq_eq_false_iff_ne.2 (by omega)
    go_wp2_with fail
    subst hX
    exact bodyPost_ret (v := .tuple #[.agg #[.int .i64 x0, .int .i64 x1, .bool x2, .bool x3, .int .i64 x4, .int .i64 x5, .int .i64 x6, .int .i64 x7, .int .i64 x8, .slice qa yn qc, .slice ua zn uc], .int .i64 fr, .int .i64 kd, .int .i64 cd, .int .i64 rs]) (by simp [results, Tryz.results4, go_sem, hr0, hr1, hr2, hr3, hr4, hr5, hr6, hr7, hr8, hr9, hr10]) rfl ⟨_, _, _, _, _, rfl, ⟨_, _, _, _, _, _, _, _, _, _, _, ys, z, rfl, by have := HYL.out; have := HYN.out; omega, by have := HZL.out; have := HZN.out; omega, HQz.out, HOz.out, HAP.out⟩, HBz.out⟩
set_option maxRecDepth 100000
theorem lwSame_walk (a b : Option Addr) (n c1 c2 : Nat) (xs : List Int) (w : World) (hx : xs.length = n) (ha : Arr w a xs) (hb : Arr w b xs) :
    Calls Tryz.prog 49 #[.slice a n c1, .slice b n c2] w fun e w' => e = .returned (.bool true) ∧ w' = w := by
  have k1 := conv_str a n c1 xs w hx ha
  have k2 := conv_str b n c2 xs w hx hb
  clear ha hb hx
  generalize strB xs = s at *
  go_enter Tryz.func49, Tryz.ntmps49
  go_wp2_with fail
  go_ret
  exact ⟨ret_bool (by simp), rfl⟩

set_option maxHeartbeats 4000000 in
/-- Two packets that are alike. -/
theorem lwPacket_walk (x0 x1 : Int) (x2 x3 : Bool) (x4 x5 x6 x7 x8 : Int) (a0 : Option Addr) (n0 c0 : Nat) (a1 : Option Addr) (n1 c1 : Nat) (b0 : Option Addr) (d0 : Nat) (b1 : Option Addr) (d1 : Nat) (z0 z1 : List Int) (w : World) (h0 : z0.length = n0) (h1 : z1.length = n1) (ha0 : Arr w a0 z0) (ha1 : Arr w a1 z1) (hb0 : Arr w b0 z0) (hb1 : Arr w b1 z1) :
    Calls Tryz.prog 12 #[.agg #[.int .i64 x0, .int .i64 x1, .bool x2, .bool x3, .int .i64 x4, .int .i64 x5, .int .i64 x6, .int .i64 x7, .int .i64 x8, .slice a0 n0 c0, .slice a1 n1 c1], .agg #[.int .i64 x0, .int .i64 x1, .bool x2, .bool x3, .int .i64 x4, .int .i64 x5, .int .i64 x6, .int .i64 x7, .int .i64 x8, .slice b0 n0 d0, .slice b1 n1 d1]] w fun e w' => e = .returned (.bool true) ∧ Below w.heap.size w w' := by
  obtain ⟨hb2, hP, hQ⟩ := two_allocs w (.cells #[.int .i64 x0, .int .i64 x1, .bool x2, .bool x3, .int .i64 x4, .int .i64 x5, .int .i64 x6, .int .i64 x7, .int .i64 x8, .slice a0 n0 c0, .slice a1 n1 c1] 24) (.cells #[.int .i64 x0, .int .i64 x1, .bool x2, .bool x3, .int .i64 x4, .int .i64 x5, .int .i64 x6, .int .i64 x7, .int .i64 x8, .slice b0 n0 d0, .slice b1 n1 d1] 24)
  have HB := hide hb2
  have HS0 := hide (lwSame_walk a0 b0 n0 c0 d0 z0 _ h0 (ha0.below hb2 (Nat.le_refl _)) (hb0.below hb2 (Nat.le_refl _)))
  have HS1 := hide (lwSame_walk a1 b1 n1 c1 d1 z1 _ h1 (ha1.below hb2 (Nat.le_refl _)) (hb1.below hb2 (Nat.le_refl _)))
  have hP' : HoldV _ w.heap.size _ 24 := hP
  have hQ' : HoldV _ (w.heap.size + 1) _ 24 := hQ
  clear hb2 hP hQ ha0 ha1 hb0 hb1 h0 h1
  go_enter Tryz.func12, Tryz.ntmps12
  have cp := fun i v hv => hP'.cell i v hv
  have cq := fun i v hv => hQ'.cell i v hv
  have p0 := cp 0 _ rfl; have p1 := cp 1 _ rfl; have p2 := cp 2 _ rfl; have p3 := cp 3 _ rfl; have p4 := cp 4 _ rfl; have p5 := cp 5 _ rfl; have p6 := cp 6 _ rfl; have p7 := cp 7 _ rfl; have p8 := cp 8 _ rfl; have p9 := cp 9 _ rfl; have p10 := cp 10 _ rfl
  have q0 := cq 0 _ rfl; have q1 := cq 1 _ rfl; have q2 := cq 2 _ rfl; have q3 := cq 3 _ rfl; have q4 := cq 4 _ rfl; have q5 := cq 5 _ rfl; have q6 := cq 6 _ rfl; have q7 := cq 7 _ rfl; have q8 := cq 8 _ rfl; have q9 := cq 9 _ rfl; have q10 := cq 10 _ rfl
  clear cp cq hP' hQ'
  go_wp2_with fail
  refine HS0.out.mono ?_
  rintro e w1 ⟨rfl, rfl⟩
  go_wp2_with fail
  refine HS1.out.mono ?_
  rintro e w1 ⟨rfl, rfl⟩
  go_wp2_with fail
  go_ret
  exact ⟨rfl, HB.out⟩
set_option maxRecDepth 100000
/-- Whether a region that draws its order may be walked in this one: what only looks (true) comes as early as it may; all else comes when nothing else may. -/
def lexOrd (ops : Array Oper) : List (Nat × Bool) → Array Bool → Bool
  | [], listed => (Region.ready .any ops listed).isEmpty
  | (i, true) :: r, listed => Region.free .any ops listed i && (Region.ready .any ops listed).contains i && lexOrd ops r (listed.setIfInBounds i true)
  | (i, false) :: r, listed => (Region.ready .any ops listed == [i]) && lexOrd ops r (listed.setIfInBounds i true)
/-- The walk in that order: what looks yields its value in every world of S; what acts ends in a world of S. -/
def wpLex (P : Program) (ops : Array Oper) (Q : Exit → Act → World → Prop) (S : World → Prop) : List (Nat × Bool) → Act → World → Prop
  | [], a, w => Q .normal a w
  | (i, true) :: r, a, w => ∃ o v, ops[i]? = some o ∧ YieldsIf P ops S o v a ∧ (∀ c a w, Q (.panic c) (a.put o.dst v) w → Q (.panic c) a w) ∧ wpLex P ops Q S r (a.put o.dst v) w
  | (i, false) :: r, a, w => wpOp P ops Q i (fun a' w' => S w' ∧ wpLex P ops Q S r a' w') a w
theorem wpOp_imp {P : Program} {ops : Array Oper} {Q : Exit → Act → World → Prop} {i : Nat} {K K' : Act → World → Prop} {a : Act} {w : World} (h : wpOp P ops Q i K a w) (hk : ∀ a w, K a w → K' a w) : wpOp P ops Q i K' a w := wpOp_mono hk h
theorem lex_any {P : Program} {ops : Array Oper} {Q : Exit → Act → World → Prop} {S : World → Prop} (hs : Region.noSelect ops = true) :
    ∀ (l : List (Nat × Bool)) (listed : Array Bool) (a : Act) (w : World), lexOrd ops l listed = true → S w → wpLex P ops Q S l a w → wpAnyH P .any ops Q S l.length listed a w
  | [], listed, a, w, ho, _, h => wpAnyH_done (by simpa [lexOrd] using ho) h _
  | (i, true) :: r, listed, a, w, ho, hS, h => by
    obtain ⟨o, v, hi, hy, hq, hr⟩ := h
    simp only [lexOrd, Bool.and_eq_true] at ho
    exact wpAnyH_take hi hs ho.1.1 ho.1.2 hq hy hS (lex_any hs r _ _ _ ho.2 hS hr)
  | (i, false) :: r, listed, a, w, ho, hS, h => by
    simp only [lexOrd, Bool.and_eq_true, beq_iff_eq] at ho
    refine wpAnyH_all ho.1 (by simp) ?_
    intro j hj
    have e : j = i := by simpa using hj
    subst e
    exact wpOp_imp h (fun a w hh => ⟨hh.1, lex_any hs r _ _ _ ho.2 hh.1 hh.2⟩)
/-- A region that draws its order, walked in one order. -/
theorem wp_region_lex {P : Program} {ops : Array Oper} {Q : Exit → Act → World → Prop} {id : Nat} {a : Act} {w : World} (S : World → Prop) (l : List (Nat × Bool)) (hm : P.follows .mixedOrders = true) (hs : Region.noSelect ops = true) (ho : lexOrd ops l (Array.replicate ops.size false) = true) (hl : l.length = ops.size) (hS : S w.drew) (h : wpLex P ops Q S l a w.drew) : (Code.region id ops true).wp P Q a w :=
  wp_region_held_drew hm hS (fun _ => by have k := lex_any hs l _ _ _ ho hS h; rw [hl] at k; exact k)
theorem lex_get {ops : Array Oper} {i : Nat} {o : Oper} {t : List Oper} (h : ops.toList.drop i = o :: t) : ops[i]? = some o := by
  have := congrArg List.head? h
  rw [List.head?_drop, List.head?_cons] at this
  rw [← this, Array.getElem?_toList]
section
variable {P : Program} {ops : Array Oper} {Q : Exit → Act → World → Prop} {S : World → Prop} {i : Nat} {o : Oper} {t : List Oper} {r : List (Nat × Bool)} {a : Act} {w : World}
/-- It yields its value in every world of S. -/
theorem wpLex_take (v : Value) (ho : ops.toList.drop i = o :: t) (hw : Region.wanted o (yielded ops a.tmps) = true) (hq : ∀ c a w, Q (.panic c) (a.put o.dst v) w → Q (.panic c) a w) (hy : ∀ w, S w → (execOp a.eval o).run P w = .ok (.value v) w) (h : wpLex P ops Q S r (a.put o.dst v) w) : wpLex P ops Q S ((i, true) :: r) a w :=
  ⟨o, v, lex_get ho, .inl ⟨hw, hy⟩, hq, h⟩
end
theorem wpLex_nil {P : Program} {ops : Array Oper} {Q : Exit → Act → World → Prop} {S : World → Prop} {a : Act} {w : World} (h : Q .normal a w) : wpLex P ops Q S [] a w := h

theorem coL_no {x0 x1 : Int} {x2 x3 : Bool} {x4 x5 x6 x7 x8 : Int} {z0 z1 : List Int} {fr kd cd rs : Int} (h : coB x0 x1 x4 x5 x6 x7 x8 z0.length z1 fr kd cd rs = false) : coL x0 x1 x2 x3 x4 x5 x6 x7 x8 z0 z1 fr kd cd rs = [] := by
  unfold coL; rw [if_neg (by rw [h]; simp)]
/-- What each operation leaves where two are asked the same. -/
def A5 (pv : Value) (mb : Bool) : Nat → Value → World → Prop
  | 0, v, _ => v = pv
  | 1, v, _ => v = .bool mb
  | 2, v, _ => v = pv
  | 3, v, _ => v = .bool mb
  | _, _, _ => True
theorem A5_kept {pv : Value} {mb : Bool} : ∀ (k : Nat) (v : Value) (W W' : World), Below W.heap.size W W' → A5 pv mb k v W → A5 pv mb k v W' := by
  intro k v W W' hg h
  unfold A5 at h ⊢
  split at h <;> exact h
set_option maxHeartbeats 16000000 in
theorem fnCom_small (a : Option Addr) (n cap : Nat) (zs : List Int) (w : World) (hn : zs.length = n) (ha : Arr w a zs) (hm : n ≤ 1048576) (he : ErrT w) :
    Calls Tryz.prog 3 #[.slice a n cap] w fun e w' => e = .returned (.bool true) ∧ Below w.heap.size w w' := by
  have CD := hide (drawCom_walk a n cap zs w hn ha (by omega))
  have HE := hide he
  have hm1 : ¬ (1048576 : Int) < (n : Int) := by omega
  clear hn ha he
  go_enter Tryz.func3, Tryz.ntmps3
  go_wp2_with fail
  refine CD.out.mono ?_
  clear CD
  rintro e w1 ⟨v, fr, kd, cd, rs, rfl, ⟨x0, x1, x2, x3, x4, x5, x6, x7, x8, u0, u1, ys, z, rfl, hy, hz, hq, hO, hap⟩, hb1⟩
  replace HE := hide (HE.out.below hb1 (Nat.le_refl _))
  have HB := hide hb1
  obtain ⟨qa, qc, hu0, HQ⟩ := own_slice hq
  obtain ⟨ua, uc, hu1, HO⟩ := own_slice hO
  subst hu0 hu1
  have hqc := own_cap hq
  have huc := own_cap hO
  have HZ0 := hide hq.2
  have HZ1 := hide hO.2
  replace HQ := hide HQ
  replace HO := hide HO
  generalize hyn : ys.length = yn at *
  generalize hzn : z.length = zn at *
  have HYN := hide hyn
  have HZN := hide hzn
  clear hq hO hap hb1 hyn hzn
  have hal : Below w1.heap.size w1 (w1.alloc (.cells #[.int .i64 x0, .int .i64 x1, .bool x2, .bool x3, .int .i64 x4, .int .i64 x5, .int .i64 x6, .int .i64 x7, .int .i64 x8, .slice qa yn qc, .slice ua zn uc] 24)) := (Below.refl _ _).alloc (Nat.le_refl _) _
  have HP : Hid (HoldV (w1.alloc (.cells #[.int .i64 x0, .int .i64 x1, .bool x2, .bool x3, .int .i64 x4, .int .i64 x5, .int .i64 x6, .int .i64 x7, .int .i64 x8, .slice qa yn qc, .slice ua zn uc] 24)) w1.heap.size #[.int .i64 x0, .int .i64 x1, .bool x2, .bool x3, .int .i64 x4, .int .i64 x5, .int .i64 x6, .int .i64 x7, .int .i64 x8, .slice qa yn qc, .slice ua zn uc] 24) := hide (heap_alloc_new _ _)
  replace HE := hide (HE.out.below hal (Nat.le_refl _))
  replace HB := hide (below_on HB.out hal)
  replace HQ := hide (HQ.out.below hal (Nat.le_refl _))
  replace HO := hide (HO.out.below hal (Nat.le_refl _))
  clear hal
  have HC : Hid (∀ W, Arr W qa ys → Arr W ua z → _) := hide (fun W h0 h1 => specComplain x0 x1 x2 x3 x4 x5 x6 x7 x8 ys z fr kd cd rs (fun _ => True) qa yn qc ua zn uc W HYN.out h0 hqc (by omega) HZN.out h1 huc (by omega) trivial)
  have HI : Hid (∀ W, Arr W qa ys → Arr W ua z → ErrT W → _) := hide (fun W h0 h1 he => implComplain x0 x1 x2 x3 x4 x5 x6 x7 x8 ys z fr kd cd rs qa yn qc ua zn uc W HYN.out h0 hqc (by omega) HZN.out h1 huc (by omega) he)
  have HM : Hid (∀ W, Arr W qa ys → Arr W ua z → _) := hide (fun W h0 h1 => specMay x0 x1 x2 x3 x4 x5 x6 x7 x8 ys z (fun _ => True) qa yn qc ua zn uc W HYN.out h0 hqc (by omega) HZN.out h1 huc (by omega) trivial)
  have HN : Hid (∀ W, Arr W qa ys → Arr W ua z → _) := hide (fun W h0 h1 => implMay x0 x1 x2 x3 x4 x5 x6 x7 x8 ys z (fun _ => True) qa yn qc ua zn uc W HYN.out h0 hqc (by omega) HZN.out h1 huc (by omega) trivial)
  go_upto_region 4 with fail
  generalize w1.alloc (.cells #[.int .i64 x0, .int .i64 x1, .bool x2, .bool x3, .int .i64 x4, .int .i64 x5, .int .i64 x6, .int .i64 x7, .int .i64 x8, .slice qa yn qc, .slice ua zn uc] 24) = w2 at *
  generalize w1.heap.size = P at *
  have hp0 := HP.out.cell 0 _ rfl; have hp1 := HP.out.cell 1 _ rfl; have hp2 := HP.out.cell 2 _ rfl; have hp3 := HP.out.cell 3 _ rfl; have hp4 := HP.out.cell 4 _ rfl; have hp5 := HP.out.cell 5 _ rfl; have hp6 := HP.out.cell 6 _ rfl; have hp7 := HP.out.cell 7 _ rfl; have hp8 := HP.out.cell 8 _ rfl; have hp9 := HP.out.cell 9 _ rfl; have hp10 := HP.out.cell 10 _ rfl
  have HMB : Hid (coB x0 x1 x4 x5 x6 x7 x8 ys.length z fr kd cd rs = true → mayB x0 x1 x4 x5 x6 x7 x8 ys.length z = true) := hide (fun h => (coB_parts h).1)
  generalize hmb : mayB x0 x1 x4 x5 x6 x7 x8 ys.length z = mb at *
  cases hco : coB x0 x1 x4 x5 x6 x7 x8 ys.length z fr kd cd rs
  · -- there is none
    rw [hco] at HC HI
    rw [coL_no hco] at HC HI
    simp only [coI, Bool.false_eq_true, if_false] at HC HI
    clear HMB
    go_wp2_with fail
    refine (HC.out _ HQ.out HO.out).mono ?_
    clear HC
    rintro e w3 ⟨v0, v1, rfl, ho0, ho1, _, hb1⟩
    replace HE := hide (HE.out.below hb1 (Nat.le_refl _))
    replace HB := hide (below_on HB.out hb1)
    replace HQ := hide (HQ.out.below hb1 (Nat.le_refl _))
    replace HO := hide (HO.out.below hb1 (Nat.le_refl _))
    replace HP := hide (HP.out.next hb1)
    obtain ⟨wa, wc, hv0, _⟩ := own_slice ho0
    obtain ⟨wb, wd, hv1, _⟩ := own_slice ho1
    simp only [List.length_nil] at hv0 hv1
    subst hv0 hv1
    clear ho0 ho1 hb1 hp0 hp1 hp2 hp3 hp4 hp5 hp6 hp7 hp8 hp9 hp10
    have hal : Below w3.heap.size w3 (w3.alloc (.cells #[.int .i64 0, .int .i64 0, .bool false, .bool false, .int .i64 0, .int .i64 0, .int .i64 0, .int .i64 0, .int .i64 0, .slice wa 0 wc, .slice wb 0 wd] 24)) := (Below.refl _ _).alloc (Nat.le_refl _) _
    have HW : Hid (HoldV (w3.alloc (.cells #[.int .i64 0, .int .i64 0, .bool false, .bool false, .int .i64 0, .int .i64 0, .int .i64 0, .int .i64 0, .int .i64 0, .slice wa 0 wc, .slice wb 0 wd] 24)) w3.heap.size #[.int .i64 0, .int .i64 0, .bool false, .bool false, .int .i64 0, .int .i64 0, .int .i64 0, .int .i64 0, .int .i64 0, .slice wa 0 wc, .slice wb 0 wd] 24) := hide (heap_alloc_new _ _)
    replace HE := hide (HE.out.below hal (Nat.le_refl _))
    replace HB := hide (below_on HB.out hal)
    replace HQ := hide (HQ.out.below hal (Nat.le_refl _))
    replace HO := hide (HO.out.below hal (Nat.le_refl _))
    replace HP := hide (HP.out.next hal)
    clear hal
    go_upto_region 5 with fail
    generalize w3.alloc (.cells #[.int .i64 0, .int .i64 0, .bool false, .bool false, .int .i64 0, .int .i64 0, .int .i64 0, .int .i64 0, .int .i64 0, .slice wa 0 wc, .slice wb 0 wd] 24) = w4 at *
    generalize w3.heap.size = T at *
    refine wp_region_last2 (fun W W2 => Below W.heap.size W W2) (fun W => ErrT W ∧ Below w.heap.size w W ∧ Arr W qa ys ∧ Arr W ua z ∧ HoldV W P #[.int .i64 x0, .int .i64 x1, .bool x2, .bool x3, .int .i64 x4, .int .i64 x5, .int .i64 x6, .int .i64 x7, .int .i64 x8, .slice qa yn qc, .slice ua zn uc] 24 ∧ HoldV W T #[.int .i64 0, .int .i64 0, .bool false, .bool false, .int .i64 0, .int .i64 0, .int .i64 0, .int .i64 0, .int .i64 0, .slice wa 0 wc, .slice wb 0 wd] 24) (A5 (.agg #[.int .i64 x0, .int .i64 x1, .bool x2, .bool x3, .int .i64 x4, .int .i64 x5, .int .i64 x6, .int .i64 x7, .int .i64 x8, .slice qa yn qc, .slice ua zn uc]) mb) _ rfl (by kernel_rfl) (by kernel_rfl) (by kernel_rfl) (by kernel_rfl) A5_kept ⟨HE.out.below (Below.refl _ _).drew (Nat.le_refl _), below_on HB.out (Below.refl _ _).drew, HQ.out.below (Below.refl _ _).drew (Nat.le_refl _), HO.out.below (Below.refl _ _).drew (Nat.le_refl _), HP.out.next (Below.refl _ _).drew, HW.out.next (Below.refl _ _).drew⟩ ?_ ?_
    clear HE HB HQ HO HP HW
    refine EachBut.one _ _ _ ?_ ?_
    · intro v W hB hp KK hKK
      rw [if_pos (by rfl)]
      have hp1 : AllOf (A5 (.agg #[.int .i64 x0, .int .i64 x1, .bool x2, .bool x3, .int .i64 x4, .int .i64 x5, .int .i64 x6, .int .i64 x7, .int .i64 x8, .slice qa yn qc, .slice ua zn uc]) mb) v W [] := hp
      clear hp
      simp only [putAll, Act.put, List.setIfInBounds_toArray, List.set_cons_zero, List.set_cons_succ, Nat.reduceAdd] at hKK ⊢
      have HBB := hide hB
      clear hB
      have hp0 := HBB.out.2.2.2.2.1.cell 0 _ rfl; have hp1 := HBB.out.2.2.2.2.1.cell 1 _ rfl; have hp2 := HBB.out.2.2.2.2.1.cell 2 _ rfl; have hp3 := HBB.out.2.2.2.2.1.cell 3 _ rfl; have hp4 := HBB.out.2.2.2.2.1.cell 4 _ rfl; have hp5 := HBB.out.2.2.2.2.1.cell 5 _ rfl; have hp6 := HBB.out.2.2.2.2.1.cell 6 _ rfl; have hp7 := HBB.out.2.2.2.2.1.cell 7 _ rfl; have hp8 := HBB.out.2.2.2.2.1.cell 8 _ rfl; have hp9 := HBB.out.2.2.2.2.1.cell 9 _ rfl; have hp10 := HBB.out.2.2.2.2.1.cell 10 _ rfl
      go_simp
      refine hKK _ _ (Below.refl _ _) HBB.out ?_
      rfl
    refine EachBut.one _ _ _ ?_ ?_
    · intro v W hB hp KK hKK
      rw [if_pos (by rfl)]
      have hp1 : AllOf (A5 (.agg #[.int .i64 x0, .int .i64 x1, .bool x2, .bool x3, .int .i64 x4, .int .i64 x5, .int .i64 x6, .int .i64 x7, .int .i64 x8, .slice qa yn qc, .slice ua zn uc]) mb) v W [0] := hp
      clear hp
      simp only [putAll, Act.put, List.setIfInBounds_toArray, List.set_cons_zero, List.set_cons_succ, Nat.reduceAdd] at hKK ⊢
      have e0 : v 0 = .agg #[.int .i64 x0, .int .i64 x1, .bool x2, .bool x3, .int .i64 x4, .int .i64 x5, .int .i64 x6, .int .i64 x7, .int .i64 x8, .slice qa yn qc, .slice ua zn uc] := hp1.1
      simp only [e0] at hKK ⊢
      clear e0 hp1
      have HBB := hide hB
      clear hB
      go_simp
      refine (HN.out W HBB.out.2.2.1 HBB.out.2.2.2.1).mono ?_
      rintro e w9 ⟨rfl, hb9⟩
      go_simp
      refine hKK _ _ hb9 ⟨HBB.out.1.below hb9 (Nat.le_refl _), below_on HBB.out.2.1 hb9, HBB.out.2.2.1.below hb9 (Nat.le_refl _), HBB.out.2.2.2.1.below hb9 (Nat.le_refl _), HBB.out.2.2.2.2.1.next hb9, HBB.out.2.2.2.2.2.next hb9⟩ ?_
      rfl
    refine EachBut.one _ _ _ ?_ ?_
    · intro v W hB hp KK hKK
      rw [if_pos (by rfl)]
      have hp1 : AllOf (A5 (.agg #[.int .i64 x0, .int .i64 x1, .bool x2, .bool x3, .int .i64 x4, .int .i64 x5, .int .i64 x6, .int .i64 x7, .int .i64 x8, .slice qa yn qc, .slice ua zn uc]) mb) v W [] := hp
      clear hp
      simp only [putAll, Act.put, List.setIfInBounds_toArray, List.set_cons_zero, List.set_cons_succ, Nat.reduceAdd] at hKK ⊢
      have HBB := hide hB
      clear hB
      have hp0 := HBB.out.2.2.2.2.1.cell 0 _ rfl; have hp1 := HBB.out.2.2.2.2.1.cell 1 _ rfl; have hp2 := HBB.out.2.2.2.2.1.cell 2 _ rfl; have hp3 := HBB.out.2.2.2.2.1.cell 3 _ rfl; have hp4 := HBB.out.2.2.2.2.1.cell 4 _ rfl; have hp5 := HBB.out.2.2.2.2.1.cell 5 _ rfl; have hp6 := HBB.out.2.2.2.2.1.cell 6 _ rfl; have hp7 := HBB.out.2.2.2.2.1.cell 7 _ rfl; have hp8 := HBB.out.2.2.2.2.1.cell 8 _ rfl; have hp9 := HBB.out.2.2.2.2.1.cell 9 _ rfl; have hp10 := HBB.out.2.2.2.2.1.cell 10 _ rfl
      go_simp
      refine hKK _ _ (Below.refl _ _) HBB.out ?_
      rfl
    refine EachBut.one _ _ _ ?_ ?_
    · intro v W hB hp KK hKK
      rw [if_pos (by rfl)]
      have hp1 : AllOf (A5 (.agg #[.int .i64 x0, .int .i64 x1, .bool x2, .bool x3, .int .i64 x4, .int .i64 x5, .int .i64 x6, .int .i64 x7, .int .i64 x8, .slice qa yn qc, .slice ua zn uc]) mb) v W [2, 1] := hp
      clear hp
      simp only [putAll, Act.put, List.setIfInBounds_toArray, List.set_cons_zero, List.set_cons_succ, Nat.reduceAdd] at hKK ⊢
      have e2 : v 2 = .agg #[.int .i64 x0, .int .i64 x1, .bool x2, .bool x3, .int .i64 x4, .int .i64 x5, .int .i64 x6, .int .i64 x7, .int .i64 x8, .slice qa yn qc, .slice ua zn uc] := hp1.1
      simp only [e2] at hKK ⊢
      clear e2 hp1
      have HBB := hide hB
      clear hB
      go_simp
      refine (HM.out W HBB.out.2.2.1 HBB.out.2.2.2.1).mono ?_
      rintro e w9 ⟨rfl, hb9⟩
      go_simp
      refine hKK _ _ hb9 ⟨HBB.out.1.below hb9 (Nat.le_refl _), below_on HBB.out.2.1 hb9, HBB.out.2.2.1.below hb9 (Nat.le_refl _), HBB.out.2.2.2.1.below hb9 (Nat.le_refl _), HBB.out.2.2.2.2.1.next hb9, HBB.out.2.2.2.2.2.next hb9⟩ ?_
      rfl
    · exact trivial
    intro v W hB hA KK hKK
    rw [if_pos (by rfl)]
    simp only [putAll, Act.put, List.setIfInBounds_toArray, List.set_cons_zero, List.set_cons_succ, Nat.reduceAdd]
    have e1 : v 1 = .bool mb := hA 1 (by decide)
    have e3 : v 3 = .bool mb := hA 3 (by decide)
    clear hA
    simp only [e1, e3]
    clear e1 e3
    generalize v 0 = y0; generalize v 2 = y2
    have HE := hide (hB.1)
    have HB := hide (hB.2.1)
    have HQ := hide (hB.2.2.1)
    have HO := hide (hB.2.2.2.1)
    have HP := hide (hB.2.2.2.2.1)
    have HW := hide (hB.2.2.2.2.2)
    clear hB
    go_simp
    refine hKK _ _ ?_
    clear hKK
    have hbb : (mb != mb) = false := by cases mb <;> rfl
    have hp0 := HP.out.cell 0 _ rfl; have hp1 := HP.out.cell 1 _ rfl; have hp2 := HP.out.cell 2 _ rfl; have hp3 := HP.out.cell 3 _ rfl; have hp4 := HP.out.cell 4 _ rfl; have hp5 := HP.out.cell 5 _ rfl; have hp6 := HP.out.cell 6 _ rfl; have hp7 := HP.out.cell 7 _ rfl; have hp8 := HP.out.cell 8 _ rfl; have hp9 := HP.out.cell 9 _ rfl; have hp10 := HP.out.cell 10 _ rfl
    go_wp2_with fail
    refine (HI.out _ HQ.out HO.out HE.out).mono ?_
    clear HI
    rintro e w5 ⟨v0, v1, rfl, ho0, ho1, _, hb1⟩
    replace HE := hide (HE.out.below hb1 (Nat.le_refl _))
    replace HB := hide (below_on HB.out hb1)
    replace HQ := hide (HQ.out.below hb1 (Nat.le_refl _))
    replace HO := hide (HO.out.below hb1 (Nat.le_refl _))
    replace HP := hide (HP.out.next hb1)
    replace HW := hide (HW.out.next hb1)
    obtain ⟨ra, rc, hv0, _⟩ := own_slice ho0
    obtain ⟨rb, rd, hv1, _⟩ := own_slice ho1
    simp only [List.length_nil] at hv0 hv1
    subst hv0 hv1
    have HBz := hide (HB.out.alloc HB.out.size (.cells #[.int .i64 0, .int .i64 0, .bool false, .bool false, .int .i64 0, .int .i64 0, .int .i64 0, .int .i64 0, .int .i64 0, .slice ra 0 rc, .slice rb 0 rd] 24))
    clear ho0 ho1 hb1 hp0 hp1 hp2 hp3 hp4 hp5 hp6 hp7 hp8 hp9 hp10
    go_wp2_with fail
    go_ret
    exact ⟨rfl, HBz.out⟩
  · -- there is one
    have hmt : mb = true := HMB.out hco
    subst hmt
    rw [hco] at HC HI
    simp only [coI, if_true] at HC HI
    generalize hM : coL x0 x1 x2 x3 x4 x5 x6 x7 x8 ys z fr kd cd rs = M at *
    obtain ⟨k0, k1, k2, k3, k4, k5, k6⟩ := com_icmp HZ0.out HZ1.out hco M hM
    obtain ⟨l0, l1⟩ := com_pack HZ0.out HZ1.out hco M hM
    have hz8 : (z.take 8).length ≤ 8 := by rw [List.length_take]; omega
    have hMl : M.length ≤ 100000 := by rw [k5, HYN.out]; omega
    obtain ⟨r0, r1⟩ := com_quote (x2 := x2) (x3 := x3) HZ0.out (mayB_enc (coB_parts hco).1) (idB M) k4
    have hQl : (idB M).length ≤ 100000 := by unfold idB; split <;> simp <;> omega
    generalize hBL : ipL 0 0 false false 0 64 1 fr x7 [] M = BL
    have hBLl : BL.length ≤ 1048576 := by rw [← hBL]; unfold ipL; rw [show ([] : List Int).length = 0 from rfl, if_pos l0, List.length_append, ipHead_len, show ([] : List Int).length = 0 from rfl]; omega
    have HBL := hide hBLl
    clear hBLl
    have hpb := ip_back 0 0 false false 0 64 1 fr x7 [] M [] (by simp) l0 BL (by rw [hBL, List.append_nil])
    obtain ⟨d0, d1, d2, d3, d4, d5, d6, d7, d8, d9, d10, d11⟩ := hpb
    have HEN := hide (implEncIP 0 0 false false 0 64 1 fr x7 [] M)
    rw [hBL, show ([] : List Int).length = 0 from rfl, l0] at HEN
    have HDE : Hid (∀ h : (∀ z ∈ BL, 0 ≤ z ∧ z ≤ 255), _) := hide (fun h => implDecIP BL h)
    simp only [dpI, dpB, dpL, d0, d1, d2, d3, d4, d5, d6, d7, d8, d9, d10, d11, if_true] at HDE
    have HIC := hide (implDecIcmp M)
    rw [k0, k1, k2, k3] at HIC
    have HMX := hide (implMay 0 0 false false 0 64 1 fr x7 [] M (fun _ => True))
    rw [show ([] : List Int).length = 0 from rfl, l1] at HMX
    generalize hQz : idB M = Qz at *
    have HRQ := hide (implReadQuote Qz)
    have HR0 := hide r0; have HR1 := hide r1
    have HML := hide hMl; have HQL := hide hQl
    generalize hmn : M.length = mn at *
    have HMN := hide hmn
    clear k0 k1 k2 k3 k4 k5 k6 l0 l1 hz8 hMl r0 r1 hQl hBL d0 d1 d2 d3 d4 d5 d6 d7 d8 d9 d10 d11 hQz hM hmn hco HMB
    go_wp2_with fail
    refine (HC.out _ HQ.out HO.out).mono ?_
    rintro e w3 ⟨v0, v1, rfl, ho0, ho1, _, hb1⟩
    replace HE := hide (HE.out.below hb1 (Nat.le_refl _))
    replace HB := hide (below_on HB.out hb1)
    replace HQ := hide (HQ.out.below hb1 (Nat.le_refl _))
    replace HO := hide (HO.out.below hb1 (Nat.le_refl _))
    replace HP := hide (HP.out.next hb1)
    obtain ⟨wa, wc, hv0, hwA⟩ := own_slice ho0
    obtain ⟨wb, wd, hv1, hwB⟩ := own_slice ho1
    rw [HMN.out] at hv1
    simp only [List.length_nil] at hv0
    subst hv0 hv1
    have hwd := own_cap ho1
    have HwA := hide hwA; have HwB := hide hwB
    clear ho0 ho1 hb1 hwA hwB
    clear HC hp0 hp1 hp2 hp3 hp4 hp5 hp6 hp7 hp8 hp9 hp10
    have hal : Below w3.heap.size w3 (w3.alloc (.cells #[.int .i64 0, .int .i64 0, .bool false, .bool false, .int .i64 0, .int .i64 64, .int .i64 1, .int .i64 fr, .int .i64 x7, .slice wa 0 wc, .slice wb mn wd] 24)) := (Below.refl _ _).alloc (Nat.le_refl _) _
    have HW : Hid (HoldV (w3.alloc (.cells #[.int .i64 0, .int .i64 0, .bool false, .bool false, .int .i64 0, .int .i64 64, .int .i64 1, .int .i64 fr, .int .i64 x7, .slice wa 0 wc, .slice wb mn wd] 24)) w3.heap.size #[.int .i64 0, .int .i64 0, .bool false, .bool false, .int .i64 0, .int .i64 64, .int .i64 1, .int .i64 fr, .int .i64 x7, .slice wa 0 wc, .slice wb mn wd] 24) := hide (heap_alloc_new _ _)
    replace HE := hide (HE.out.below hal (Nat.le_refl _))
    replace HB := hide (below_on HB.out hal)
    replace HQ := hide (HQ.out.below hal (Nat.le_refl _))
    replace HO := hide (HO.out.below hal (Nat.le_refl _))
    replace HP := hide (HP.out.next hal)
    replace HwA := hide (HwA.out.below hal (Nat.le_refl _))
    replace HwB := hide (HwB.out.below hal (Nat.le_refl _))
    clear hal
    go_upto_region 5 with fail
    generalize w3.alloc (.cells #[.int .i64 0, .int .i64 0, .bool false, .bool false, .int .i64 0, .int .i64 64, .int .i64 1, .int .i64 fr, .int .i64 x7, .slice wa 0 wc, .slice wb mn wd] 24) = w4 at *
    generalize w3.heap.size = T at *
    refine wp_region_last2 (fun W W2 => Below W.heap.size W W2) (fun W => ErrT W ∧ Below w.heap.size w W ∧ Arr W qa ys ∧ Arr W ua z ∧ HoldV W P #[.int .i64 x0, .int .i64 x1, .bool x2, .bool x3, .int .i64 x4, .int .i64 x5, .int .i64 x6, .int .i64 x7, .int .i64 x8, .slice qa yn qc, .slice ua zn uc] 24 ∧ Arr W wa [] ∧ Arr W wb M ∧ HoldV W T #[.int .i64 0, .int .i64 0, .bool false, .bool false, .int .i64 0, .int .i64 64, .int .i64 1, .int .i64 fr, .int .i64 x7, .slice wa 0 wc, .slice wb mn wd] 24) (A5 (.agg #[.int .i64 x0, .int .i64 x1, .bool x2, .bool x3, .int .i64 x4, .int .i64 x5, .int .i64 x6, .int .i64 x7, .int .i64 x8, .slice qa yn qc, .slice ua zn uc]) true) _ rfl (by kernel_rfl) (by kernel_rfl) (by kernel_rfl) (by kernel_rfl) A5_kept ⟨HE.out.below (Below.refl _ _).drew (Nat.le_refl _), below_on HB.out (Below.refl _ _).drew, HQ.out.below (Below.refl _ _).drew (Nat.le_refl _), HO.out.below (Below.refl _ _).drew (Nat.le_refl _), HP.out.next (Below.refl _ _).drew, HwA.out.below (Below.refl _ _).drew (Nat.le_refl _), HwB.out.below (Below.refl _ _).drew (Nat.le_refl _), HW.out.next (Below.refl _ _).drew⟩ ?_ ?_
    clear HE HB HQ HO HP HwA HwB HW
    refine EachBut.one _ _ _ ?_ ?_
    · intro v W hB hp KK hKK
      rw [if_pos (by rfl)]
      have hp1 : AllOf (A5 (.agg #[.int .i64 x0, .int .i64 x1, .bool x2, .bool x3, .int .i64 x4, .int .i64 x5, .int .i64 x6, .int .i64 x7, .int .i64 x8, .slice qa yn qc, .slice ua zn uc]) true) v W [] := hp
      clear hp
      simp only [putAll, Act.put, List.setIfInBounds_toArray, List.set_cons_zero, List.set_cons_succ, Nat.reduceAdd] at hKK ⊢
      have HBB := hide hB
      clear hB
      have hp0 := HBB.out.2.2.2.2.1.cell 0 _ rfl; have hp1 := HBB.out.2.2.2.2.1.cell 1 _ rfl; have hp2 := HBB.out.2.2.2.2.1.cell 2 _ rfl; have hp3 := HBB.out.2.2.2.2.1.cell 3 _ rfl; have hp4 := HBB.out.2.2.2.2.1.cell 4 _ rfl; have hp5 := HBB.out.2.2.2.2.1.cell 5 _ rfl; have hp6 := HBB.out.2.2.2.2.1.cell 6 _ rfl; have hp7 := HBB.out.2.2.2.2.1.cell 7 _ rfl; have hp8 := HBB.out.2.2.2.2.1.cell 8 _ rfl; have hp9 := HBB.out.2.2.2.2.1.cell 9 _ rfl; have hp10 := HBB.out.2.2.2.2.1.cell 10 _ rfl
      go_simp
      refine hKK _ _ (Below.refl _ _) HBB.out ?_
      rfl
    refine EachBut.one _ _ _ ?_ ?_
    · intro v W hB hp KK hKK
      rw [if_pos (by rfl)]
      have hp1 : AllOf (A5 (.agg #[.int .i64 x0, .int .i64 x1, .bool x2, .bool x3, .int .i64 x4, .int .i64 x5, .int .i64 x6, .int .i64 x7, .int .i64 x8, .slice qa yn qc, .slice ua zn uc]) true) v W [0] := hp
      clear hp
      simp only [putAll, Act.put, List.setIfInBounds_toArray, List.set_cons_zero, List.set_cons_succ, Nat.reduceAdd] at hKK ⊢
      have e0 : v 0 = .agg #[.int .i64 x0, .int .i64 x1, .bool x2, .bool x3, .int .i64 x4, .int .i64 x5, .int .i64 x6, .int .i64 x7, .int .i64 x8, .slice qa yn qc, .slice ua zn uc] := hp1.1
      simp only [e0] at hKK ⊢
      clear e0 hp1
      have HBB := hide hB
      clear hB
      go_simp
      refine (HN.out W HBB.out.2.2.1 HBB.out.2.2.2.1).mono ?_
      rintro e w9 ⟨rfl, hb9⟩
      go_simp
      refine hKK _ _ hb9 ⟨HBB.out.1.below hb9 (Nat.le_refl _), below_on HBB.out.2.1 hb9, HBB.out.2.2.1.below hb9 (Nat.le_refl _), HBB.out.2.2.2.1.below hb9 (Nat.le_refl _), HBB.out.2.2.2.2.1.next hb9, HBB.out.2.2.2.2.2.1.below hb9 (Nat.le_refl _), HBB.out.2.2.2.2.2.2.1.below hb9 (Nat.le_refl _), HBB.out.2.2.2.2.2.2.2.next hb9⟩ ?_
      rfl
    refine EachBut.one _ _ _ ?_ ?_
    · intro v W hB hp KK hKK
      rw [if_pos (by rfl)]
      have hp1 : AllOf (A5 (.agg #[.int .i64 x0, .int .i64 x1, .bool x2, .bool x3, .int .i64 x4, .int .i64 x5, .int .i64 x6, .int .i64 x7, .int .i64 x8, .slice qa yn qc, .slice ua zn uc]) true) v W [] := hp
      clear hp
      simp only [putAll, Act.put, List.setIfInBounds_toArray, List.set_cons_zero, List.set_cons_succ, Nat.reduceAdd] at hKK ⊢
      have HBB := hide hB
      clear hB
      have hp0 := HBB.out.2.2.2.2.1.cell 0 _ rfl; have hp1 := HBB.out.2.2.2.2.1.cell 1 _ rfl; have hp2 := HBB.out.2.2.2.2.1.cell 2 _ rfl; have hp3 := HBB.out.2.2.2.2.1.cell 3 _ rfl; have hp4 := HBB.out.2.2.2.2.1.cell 4 _ rfl; have hp5 := HBB.out.2.2.2.2.1.cell 5 _ rfl; have hp6 := HBB.out.2.2.2.2.1.cell 6 _ rfl; have hp7 := HBB.out.2.2.2.2.1.cell 7 _ rfl; have hp8 := HBB.out.2.2.2.2.1.cell 8 _ rfl; have hp9 := HBB.out.2.2.2.2.1.cell 9 _ rfl; have hp10 := HBB.out.2.2.2.2.1.cell 10 _ rfl
      go_simp
      refine hKK _ _ (Below.refl _ _) HBB.out ?_
      rfl
    refine EachBut.one _ _ _ ?_ ?_
    · intro v W hB hp KK hKK
      rw [if_pos (by rfl)]
      have hp1 : AllOf (A5 (.agg #[.int .i64 x0, .int .i64 x1, .bool x2, .bool x3, .int .i64 x4, .int .i64 x5, .int .i64 x6, .int .i64 x7, .int .i64 x8, .slice qa yn qc, .slice ua zn uc]) true) v W [2, 1] := hp
      clear hp
      simp only [putAll, Act.put, List.setIfInBounds_toArray, List.set_cons_zero, List.set_cons_succ, Nat.reduceAdd] at hKK ⊢
      have e2 : v 2 = .agg #[.int .i64 x0, .int .i64 x1, .bool x2, .bool x3, .int .i64 x4, .int .i64 x5, .int .i64 x6, .int .i64 x7, .int .i64 x8, .slice qa yn qc, .slice ua zn uc] := hp1.1
      simp only [e2] at hKK ⊢
      clear e2 hp1
      have HBB := hide hB
      clear hB
      go_simp
      refine (HM.out W HBB.out.2.2.1 HBB.out.2.2.2.1).mono ?_
      rintro e w9 ⟨rfl, hb9⟩
      go_simp
      refine hKK _ _ hb9 ⟨HBB.out.1.below hb9 (Nat.le_refl _), below_on HBB.out.2.1 hb9, HBB.out.2.2.1.below hb9 (Nat.le_refl _), HBB.out.2.2.2.1.below hb9 (Nat.le_refl _), HBB.out.2.2.2.2.1.next hb9, HBB.out.2.2.2.2.2.1.below hb9 (Nat.le_refl _), HBB.out.2.2.2.2.2.2.1.below hb9 (Nat.le_refl _), HBB.out.2.2.2.2.2.2.2.next hb9⟩ ?_
      rfl
    · exact trivial
    intro v W hB hA KK hKK
    rw [if_pos (by rfl)]
    simp only [putAll, Act.put, List.setIfInBounds_toArray, List.set_cons_zero, List.set_cons_succ, Nat.reduceAdd]
    have e1 : v 1 = .bool true := hA 1 (by decide)
    have e3 : v 3 = .bool true := hA 3 (by decide)
    clear hA
    simp only [e1, e3]
    clear e1 e3
    generalize v 0 = y0; generalize v 2 = y2
    have HE := hide (hB.1)
    have HB := hide (hB.2.1)
    have HQ := hide (hB.2.2.1)
    have HO := hide (hB.2.2.2.1)
    have HP := hide (hB.2.2.2.2.1)
    have HwA := hide (hB.2.2.2.2.2.1)
    have HwB := hide (hB.2.2.2.2.2.2.1)
    have HW := hide (hB.2.2.2.2.2.2.2)
    clear hB
    go_simp
    refine hKK _ _ ?_
    clear hKK
    have hp0 := HP.out.cell 0 _ rfl; have hp1 := HP.out.cell 1 _ rfl; have hp2 := HP.out.cell 2 _ rfl; have hp3 := HP.out.cell 3 _ rfl; have hp4 := HP.out.cell 4 _ rfl; have hp5 := HP.out.cell 5 _ rfl; have hp6 := HP.out.cell 6 _ rfl; have hp7 := HP.out.cell 7 _ rfl; have hp8 := HP.out.cell 8 _ rfl; have hp9 := HP.out.cell 9 _ rfl; have hp10 := HP.out.cell 10 _ rfl
    go_wp2_with fail
    refine (HI.out _ HQ.out HO.out HE.out).mono ?_
    rintro e w5 ⟨v0, v1, rfl, ho0, ho1, _, hb1⟩
    replace HE := hide (HE.out.below hb1 (Nat.le_refl _))
    replace HB := hide (below_on HB.out hb1)
    replace HQ := hide (HQ.out.below hb1 (Nat.le_refl _))
    replace HO := hide (HO.out.below hb1 (Nat.le_refl _))
    replace HP := hide (HP.out.next hb1)
    replace HwA := hide (HwA.out.below hb1 (Nat.le_refl _))
    replace HwB := hide (HwB.out.below hb1 (Nat.le_refl _))
    replace HW := hide (HW.out.next hb1)
    obtain ⟨ra, rc, hv0, hrA⟩ := own_slice ho0
    obtain ⟨rb, rd, hv1, hrB⟩ := own_slice ho1
    rw [HMN.out] at hv1
    simp only [List.length_nil] at hv0
    subst hv0 hv1
    have hrd := own_cap ho1
    have HrA := hide hrA; have HrB := hide hrB
    clear ho0 ho1 hb1 hrA hrB
    clear HI hp0 hp1 hp2 hp3 hp4 hp5 hp6 hp7 hp8 hp9 hp10
    have hal : Below w5.heap.size w5 (w5.alloc (.cells #[.int .i64 0, .int .i64 0, .bool false, .bool false, .int .i64 0, .int .i64 64, .int .i64 1, .int .i64 fr, .int .i64 x7, .slice ra 0 rc, .slice rb mn rd] 24)) := (Below.refl _ _).alloc (Nat.le_refl _) _
    have HR : Hid (HoldV (w5.alloc (.cells #[.int .i64 0, .int .i64 0, .bool false, .bool false, .int .i64 0, .int .i64 64, .int .i64 1, .int .i64 fr, .int .i64 x7, .slice ra 0 rc, .slice rb mn rd] 24)) w5.heap.size #[.int .i64 0, .int .i64 0, .bool false, .bool false, .int .i64 0, .int .i64 64, .int .i64 1, .int .i64 fr, .int .i64 x7, .slice ra 0 rc, .slice rb mn rd] 24) := hide (heap_alloc_new _ _)
    replace HE := hide (HE.out.below hal (Nat.le_refl _))
    replace HB := hide (below_on HB.out hal)
    replace HQ := hide (HQ.out.below hal (Nat.le_refl _))
    replace HO := hide (HO.out.below hal (Nat.le_refl _))
    replace HP := hide (HP.out.next hal)
    replace HwA := hide (HwA.out.below hal (Nat.le_refl _))
    replace HwB := hide (HwB.out.below hal (Nat.le_refl _))
    replace HW := hide (HW.out.next hal)
    replace HrA := hide (HrA.out.below hal (Nat.le_refl _))
    replace HrB := hide (HrB.out.below hal (Nat.le_refl _))
    clear hal
    go_upto_region 12 with fail
    generalize w5.alloc (.cells #[.int .i64 0, .int .i64 0, .bool false, .bool false, .int .i64 0, .int .i64 64, .int .i64 1, .int .i64 fr, .int .i64 x7, .slice ra 0 rc, .slice rb mn rd] 24) = w6 at *
    generalize w5.heap.size = R at *
    have hp0 := HR.out.cell 0 _ rfl; have hp1 := HR.out.cell 1 _ rfl; have hp2 := HR.out.cell 2 _ rfl; have hp3 := HR.out.cell 3 _ rfl; have hp4 := HR.out.cell 4 _ rfl; have hp5 := HR.out.cell 5 _ rfl; have hp6 := HR.out.cell 6 _ rfl; have hp7 := HR.out.cell 7 _ rfl; have hp8 := HR.out.cell 8 _ rfl; have hp9 := HR.out.cell 9 _ rfl; have hp10 := HR.out.cell 10 _ rfl
    go_wp2_with fail
    refine (HEN.out ra 0 rc rb mn rd _ rfl HrA.out (Nat.zero_le _) (by omega) HMN.out HrB.out hrd (by have := HML.out; omega) HE.out).mono ?_
    clear HEN hp0 hp1 hp2 hp3 hp4 hp5 hp6 hp7 hp8 hp9 hp10
    rintro e w7 ⟨bv, rfl, ho0, hb1⟩
    replace HE := hide (HE.out.below hb1 (Nat.le_refl _))
    replace HB := hide (below_on HB.out hb1)
    replace HQ := hide (HQ.out.below hb1 (Nat.le_refl _))
    replace HO := hide (HO.out.below hb1 (Nat.le_refl _))
    replace HP := hide (HP.out.next hb1)
    replace HwA := hide (HwA.out.below hb1 (Nat.le_refl _))
    replace HwB := hide (HwB.out.below hb1 (Nat.le_refl _))
    replace HW := hide (HW.out.next hb1)
    replace HrA := hide (HrA.out.below hb1 (Nat.le_refl _))
    replace HrB := hide (HrB.out.below hb1 (Nat.le_refl _))
    replace HR := hide (HR.out.next hb1)
    have hbz := ho0.2
    have hbc := ho0
    obtain ⟨ba, bc, hv0, HBA⟩ := own_slice ho0
    replace HBA := hide HBA
    generalize hbn : BL.length = bn at *
    have HBN := hide hbn
    subst hv0
    have hbcap := own_cap ho0
    clear ho0 hbc hb1 hbn
    go_wp2_with fail
    refine (HDE.out hbz ba bn bc _ HBN.out HBA.out hbcap (by have := HBL.out; omega) HE.out).mono ?_
    rintro e w8 ⟨v0, v1, rfl, ho0, ho1, _, hb1⟩
    replace HE := hide (HE.out.below hb1 (Nat.le_refl _))
    replace HB := hide (below_on HB.out hb1)
    replace HQ := hide (HQ.out.below hb1 (Nat.le_refl _))
    replace HO := hide (HO.out.below hb1 (Nat.le_refl _))
    replace HP := hide (HP.out.next hb1)
    replace HwA := hide (HwA.out.below hb1 (Nat.le_refl _))
    replace HwB := hide (HwB.out.below hb1 (Nat.le_refl _))
    replace HW := hide (HW.out.next hb1)
    replace HrA := hide (HrA.out.below hb1 (Nat.le_refl _))
    replace HrB := hide (HrB.out.below hb1 (Nat.le_refl _))
    replace HR := hide (HR.out.next hb1)
    replace HBA := hide (HBA.out.below hb1 (Nat.le_refl _))
    obtain ⟨xa, xc, hv0, hxA⟩ := own_slice ho0
    obtain ⟨xb, xd, hv1, hxB⟩ := own_slice ho1
    rw [HMN.out] at hv1
    simp only [List.length_nil] at hv0
    subst hv0 hv1
    have hxd := own_cap ho1
    have HxA := hide hxA; have HxB := hide hxB
    clear ho0 ho1 hb1 hxA hxB
    clear HDE
    have hal : Below w8.heap.size w8 (w8.alloc (.cells #[.int .i64 0, .int .i64 0, .bool false, .bool false, .int .i64 0, .int .i64 64, .int .i64 1, .int .i64 fr, .int .i64 x7, .slice xa 0 xc, .slice xb mn xd] 24)) := (Below.refl _ _).alloc (Nat.le_refl _) _
    have HX : Hid (HoldV (w8.alloc (.cells #[.int .i64 0, .int .i64 0, .bool false, .bool false, .int .i64 0, .int .i64 64, .int .i64 1, .int .i64 fr, .int .i64 x7, .slice xa 0 xc, .slice xb mn xd] 24)) w8.heap.size #[.int .i64 0, .int .i64 0, .bool false, .bool false, .int .i64 0, .int .i64 64, .int .i64 1, .int .i64 fr, .int .i64 x7, .slice xa 0 xc, .slice xb mn xd] 24) := hide (heap_alloc_new _ _)
    replace HE := hide (HE.out.below hal (Nat.le_refl _))
    replace HB := hide (below_on HB.out hal)
    replace HQ := hide (HQ.out.below hal (Nat.le_refl _))
    replace HO := hide (HO.out.below hal (Nat.le_refl _))
    replace HP := hide (HP.out.next hal)
    replace HwA := hide (HwA.out.below hal (Nat.le_refl _))
    replace HwB := hide (HwB.out.below hal (Nat.le_refl _))
    replace HW := hide (HW.out.next hal)
    replace HrA := hide (HrA.out.below hal (Nat.le_refl _))
    replace HrB := hide (HrB.out.below hal (Nat.le_refl _))
    replace HR := hide (HR.out.next hal)
    replace HBA := hide (HBA.out.below hal (Nat.le_refl _))
    replace HxA := hide (HxA.out.below hal (Nat.le_refl _))
    replace HxB := hide (HxB.out.below hal (Nat.le_refl _))
    clear hal
    go_upto_region 14 with fail
    generalize w8.alloc (.cells #[.int .i64 0, .int .i64 0, .bool false, .bool false, .int .i64 0, .int .i64 64, .int .i64 1, .int .i64 fr, .int .i64 x7, .slice xa 0 xc, .slice xb mn xd] 24) = w9 at *
    generalize w8.heap.size = X at *
    have hp10 := HX.out.cell 10 _ rfl
    go_wp2_with fail
    refine (HIC.out xb mn xd _ HMN.out HxB.out hxd (by have := HML.out; omega) HE.out).mono ?_
    clear HIC hp10
    rintro e wA ⟨v0, rfl, ho0, hb1⟩
    replace HE := hide (HE.out.below hb1 (Nat.le_refl _))
    replace HB := hide (below_on HB.out hb1)
    replace HQ := hide (HQ.out.below hb1 (Nat.le_refl _))
    replace HO := hide (HO.out.below hb1 (Nat.le_refl _))
    replace HP := hide (HP.out.next hb1)
    replace HwA := hide (HwA.out.below hb1 (Nat.le_refl _))
    replace HwB := hide (HwB.out.below hb1 (Nat.le_refl _))
    replace HW := hide (HW.out.next hb1)
    replace HrA := hide (HrA.out.below hb1 (Nat.le_refl _))
    replace HrB := hide (HrB.out.below hb1 (Nat.le_refl _))
    replace HR := hide (HR.out.next hb1)
    replace HBA := hide (HBA.out.below hb1 (Nat.le_refl _))
    replace HxA := hide (HxA.out.below hb1 (Nat.le_refl _))
    replace HxB := hide (HxB.out.below hb1 (Nat.le_refl _))
    replace HX := hide (HX.out.next hb1)
    obtain ⟨ma, mc, hv0, HMA⟩ := own_slice ho0
    replace HMA := hide HMA
    generalize hkn : Qz.length = kn at *
    have HKN := hide hkn
    subst hv0
    have hmcap := own_cap ho0
    clear ho0 hb1 hkn
    have hal : Below wA.heap.size wA (wA.alloc (.cells #[.int .i64 kd, .int .i64 cd, .int .i64 rs, .slice ma kn mc] 34)) := (Below.refl _ _).alloc (Nat.le_refl _) _
    have HIB : Hid (HoldV (wA.alloc (.cells #[.int .i64 kd, .int .i64 cd, .int .i64 rs, .slice ma kn mc] 34)) wA.heap.size #[.int .i64 kd, .int .i64 cd, .int .i64 rs, .slice ma kn mc] 34) := hide (heap_alloc_new _ _)
    replace HE := hide (HE.out.below hal (Nat.le_refl _))
    replace HB := hide (below_on HB.out hal)
    replace HQ := hide (HQ.out.below hal (Nat.le_refl _))
    replace HO := hide (HO.out.below hal (Nat.le_refl _))
    replace HP := hide (HP.out.next hal)
    replace HwA := hide (HwA.out.below hal (Nat.le_refl _))
    replace HwB := hide (HwB.out.below hal (Nat.le_refl _))
    replace HW := hide (HW.out.next hal)
    replace HrA := hide (HrA.out.below hal (Nat.le_refl _))
    replace HrB := hide (HrB.out.below hal (Nat.le_refl _))
    replace HR := hide (HR.out.next hal)
    replace HBA := hide (HBA.out.below hal (Nat.le_refl _))
    replace HxA := hide (HxA.out.below hal (Nat.le_refl _))
    replace HxB := hide (HxB.out.below hal (Nat.le_refl _))
    replace HX := hide (HX.out.next hal)
    replace HMA := hide (HMA.out.below hal (Nat.le_refl _))
    clear hal
    go_upto_region 15 with fail
    generalize wA.alloc (.cells #[.int .i64 kd, .int .i64 cd, .int .i64 rs, .slice ma kn mc] 34) = wB at *
    generalize wA.heap.size = I at *
    have hp0 := HX.out.cell 0 _ rfl; have hp1 := HX.out.cell 1 _ rfl; have hp2 := HX.out.cell 2 _ rfl; have hp3 := HX.out.cell 3 _ rfl; have hp4 := HX.out.cell 4 _ rfl; have hp5 := HX.out.cell 5 _ rfl; have hp6 := HX.out.cell 6 _ rfl; have hp7 := HX.out.cell 7 _ rfl; have hp8 := HX.out.cell 8 _ rfl; have hp9 := HX.out.cell 9 _ rfl; have hp10 := HX.out.cell 10 _ rfl; have hw0 := HW.out.cell 0 _ rfl; have hw1 := HW.out.cell 1 _ rfl; have hw2 := HW.out.cell 2 _ rfl; have hw3 := HW.out.cell 3 _ rfl; have hw4 := HW.out.cell 4 _ rfl; have hw5 := HW.out.cell 5 _ rfl; have hw6 := HW.out.cell 6 _ rfl; have hw7 := HW.out.cell 7 _ rfl; have hw8 := HW.out.cell 8 _ rfl; have hw9 := HW.out.cell 9 _ rfl; have hw10 := HW.out.cell 10 _ rfl
    go_wp2_with fail
    refine (lwPacket_walk 0 0 false false 0 64 1 fr x7 xa 0 xc xb mn xd wa wc wb wd [] M _ rfl HMN.out HxA.out HxB.out HwA.out HwB.out).mono ?_
    clear hp0 hw0 hp1 hw1 hp2 hw2 hp3 hw3 hp4 hw4 hp5 hw5 hp6 hw6 hp7 hw7 hp8 hw8 hp9 hw9 hp10 hw10
    rintro e wC ⟨rfl, hb1⟩
    replace HE := hide (HE.out.below hb1 (Nat.le_refl _))
    replace HB := hide (below_on HB.out hb1)
    replace HQ := hide (HQ.out.below hb1 (Nat.le_refl _))
    replace HO := hide (HO.out.below hb1 (Nat.le_refl _))
    replace HP := hide (HP.out.next hb1)
    replace HwA := hide (HwA.out.below hb1 (Nat.le_refl _))
    replace HwB := hide (HwB.out.below hb1 (Nat.le_refl _))
    replace HW := hide (HW.out.next hb1)
    replace HrA := hide (HrA.out.below hb1 (Nat.le_refl _))
    replace HrB := hide (HrB.out.below hb1 (Nat.le_refl _))
    replace HR := hide (HR.out.next hb1)
    replace HBA := hide (HBA.out.below hb1 (Nat.le_refl _))
    replace HxA := hide (HxA.out.below hb1 (Nat.le_refl _))
    replace HxB := hide (HxB.out.below hb1 (Nat.le_refl _))
    replace HX := hide (HX.out.next hb1)
    replace HMA := hide (HMA.out.below hb1 (Nat.le_refl _))
    replace HIB := hide (HIB.out.next hb1)
    clear hb1
    have hp0 := HX.out.cell 0 _ rfl; have hp1 := HX.out.cell 1 _ rfl; have hp2 := HX.out.cell 2 _ rfl; have hp3 := HX.out.cell 3 _ rfl; have hp4 := HX.out.cell 4 _ rfl; have hp5 := HX.out.cell 5 _ rfl; have hp6 := HX.out.cell 6 _ rfl; have hp7 := HX.out.cell 7 _ rfl; have hp8 := HX.out.cell 8 _ rfl; have hp9 := HX.out.cell 9 _ rfl; have hp10 := HX.out.cell 10 _ rfl; have hq7 := HP.out.cell 7 _ rfl; have hi0 := HIB.out.cell 0 _ rfl; have hi1 := HIB.out.cell 1 _ rfl; have hi2 := HIB.out.cell 2 _ rfl; have hi3 := HIB.out.cell 3 _ rfl
    go_wp2_with fail
    refine (HMX.out xa 0 xc xb mn xd _ rfl HxA.out (Nat.zero_le _) (by omega) HMN.out HxB.out hxd (by have := HML.out; omega) trivial).mono ?_
    clear HMX hq7 hp0 hp1 hp2 hp3 hp4 hp5 hp6 hp7 hp8 hp9 hp10
    rintro e wD ⟨rfl, hb1⟩
    replace HE := hide (HE.out.below hb1 (Nat.le_refl _))
    replace HB := hide (below_on HB.out hb1)
    replace HQ := hide (HQ.out.below hb1 (Nat.le_refl _))
    replace HO := hide (HO.out.below hb1 (Nat.le_refl _))
    replace HP := hide (HP.out.next hb1)
    replace HwA := hide (HwA.out.below hb1 (Nat.le_refl _))
    replace HwB := hide (HwB.out.below hb1 (Nat.le_refl _))
    replace HW := hide (HW.out.next hb1)
    replace HrA := hide (HrA.out.below hb1 (Nat.le_refl _))
    replace HrB := hide (HrB.out.below hb1 (Nat.le_refl _))
    replace HR := hide (HR.out.next hb1)
    replace HBA := hide (HBA.out.below hb1 (Nat.le_refl _))
    replace HxA := hide (HxA.out.below hb1 (Nat.le_refl _))
    replace HxB := hide (HxB.out.below hb1 (Nat.le_refl _))
    replace HX := hide (HX.out.next hb1)
    replace HMA := hide (HMA.out.below hb1 (Nat.le_refl _))
    replace HIB := hide (HIB.out.next hb1)
    clear hb1 hi0 hi1 hi2 hi3
    have hi3 := HIB.out.cell 3 _ rfl
    go_wp2_with fail
    refine (HRQ.out ma kn mc _ HKN.out HMA.out hmcap (by have := HQL.out; omega) HE.out).mono ?_
    clear HRQ hi3
    rintro e wE ⟨rfl, hb1⟩
    replace HE := hide (HE.out.below hb1 (Nat.le_refl _))
    replace HB := hide (below_on HB.out hb1)
    replace HQ := hide (HQ.out.below hb1 (Nat.le_refl _))
    replace HO := hide (HO.out.below hb1 (Nat.le_refl _))
    replace HP := hide (HP.out.next hb1)
    replace HwA := hide (HwA.out.below hb1 (Nat.le_refl _))
    replace HwB := hide (HwB.out.below hb1 (Nat.le_refl _))
    replace HW := hide (HW.out.next hb1)
    replace HrA := hide (HrA.out.below hb1 (Nat.le_refl _))
    replace HrB := hide (HrB.out.below hb1 (Nat.le_refl _))
    replace HR := hide (HR.out.next hb1)
    replace HBA := hide (HBA.out.below hb1 (Nat.le_refl _))
    replace HxA := hide (HxA.out.below hb1 (Nat.le_refl _))
    replace HxB := hide (HxB.out.below hb1 (Nat.le_refl _))
    replace HX := hide (HX.out.next hb1)
    replace HMA := hide (HMA.out.below hb1 (Nat.le_refl _))
    replace HIB := hide (HIB.out.next hb1)
    clear hb1
    by_cases hz8 : zn < 8
    · have hrc := HR0.out (by rw [HZN.out]; exact hz8)
      simp only [rqI, hrc]
      simp only [show ¬ (2 : Int) = 0 by omega, if_false]
      have hal : Below wE.heap.size wE (wE.alloc (.cells #[.int .i64 0, .int .i64 0, .int .i64 0, .int .i64 0, .int .i64 0, .int .i64 0, .int .i64 0] 39)) := (Below.refl _ _).alloc (Nat.le_refl _) _
      have hqb : HoldV (wE.alloc (.cells #[.int .i64 0, .int .i64 0, .int .i64 0, .int .i64 0, .int .i64 0, .int .i64 0, .int .i64 0] 39)) wE.heap.size #[.int .i64 0, .int .i64 0, .int .i64 0, .int .i64 0, .int .i64 0, .int .i64 0, .int .i64 0] 39 := heap_alloc_new _ _
      have hpp := HP.out.next hal
      have hp0 := hpp.cell 0 _ rfl; have hp1 := hpp.cell 1 _ rfl; have hp2 := hpp.cell 2 _ rfl; have hp3 := hpp.cell 3 _ rfl; have hp4 := hpp.cell 4 _ rfl; have hp5 := hpp.cell 5 _ rfl; have hp6 := hpp.cell 6 _ rfl; have hp7 := hpp.cell 7 _ rfl; have hp8 := hpp.cell 8 _ rfl; have hp9 := hpp.cell 9 _ rfl; have hp10 := hpp.cell 10 _ rfl
      have hq0 := hqb.cell 0 _ rfl; have hq1 := hqb.cell 1 _ rfl; have hq2 := hqb.cell 2 _ rfl; have hq3 := hqb.cell 3 _ rfl; have hq4 := hqb.cell 4 _ rfl; have hq5 := hqb.cell 5 _ rfl; have hq6 := hqb.cell 6 _ rfl
      have hz9 : (zn : Int) < 8 := by omega
      have HBz := hide (below_on HB.out hal)
      clear hal hpp hqb
      go_wp2_with fail
      go_ret
      exact ⟨rfl, HBz.out⟩
    · obtain ⟨hrc, q9, q12, q16, q4, qa0, qa2⟩ := HR1.out (by rw [HZN.out]; omega)
      simp only [rqI, hrc, q9, q12, q16, q4, qa0, qa2, if_true]
      clear hrc q9 q12 q16 q4 qa0 qa2
      generalize tnum (List.take 4 (List.drop (rqS Qz + 4) Qz)) = q6
      obtain ⟨b0, o0, e0, lt0, hc0⟩ := HO.out.2 0 (by have := HZN.out; omega)
      obtain ⟨b1, o1, e1, lt1, hc1⟩ := HO.out.2 1 (by have := HZN.out; omega)
      obtain ⟨b2, o2, e2, lt2, hc2⟩ := HO.out.2 2 (by have := HZN.out; omega)
      obtain ⟨b3, o3, e3, lt3, hc3⟩ := HO.out.2 3 (by have := HZN.out; omega)
      subst e0
      obtain ⟨rfl, rfl⟩ : b0 = b1 ∧ o0 = o1 := by injection e1 with h; injection h with h1 h2; exact ⟨h1, h2⟩
      obtain ⟨rfl, rfl⟩ : b0 = b2 ∧ o0 = o2 := by injection e2 with h; injection h with h1 h2; exact ⟨h1, h2⟩
      obtain ⟨rfl, rfl⟩ : b0 = b3 ∧ o0 = o3 := by injection e3 with h; injection h with h1 h2; exact ⟨h1, h2⟩
      have g0 := getD_bd HO.out.1 0
      generalize z.getD 0 0 = g_0 at *
      have g1 := getD_bd HO.out.1 1
      generalize z.getD 1 0 = g_1 at *
      have g2 := getD_bd HO.out.1 2
      generalize z.getD 2 0 = g_2 at *
      have g3 := getD_bd HO.out.1 3
      generalize z.getD 3 0 = g_3 at *
      have hal : Below wE.heap.size wE (wE.alloc (.cells #[.int .i64 x6, .int .i64 x7, .int .i64 x8, .int .i64 x1, .int .i64 (g_0 * 256 + g_1), .int .i64 (g_2 * 256 + g_3), .int .i64 q6] 39)) := (Below.refl _ _).alloc (Nat.le_refl _) _
      have hqb : HoldV (wE.alloc (.cells #[.int .i64 x6, .int .i64 x7, .int .i64 x8, .int .i64 x1, .int .i64 (g_0 * 256 + g_1), .int .i64 (g_2 * 256 + g_3), .int .i64 q6] 39)) wE.heap.size #[.int .i64 x6, .int .i64 x7, .int .i64 x8, .int .i64 x1, .int .i64 (g_0 * 256 + g_1), .int .i64 (g_2 * 256 + g_3), .int .i64 q6] 39 := heap_alloc_new _ _
      have hpp := HP.out.next hal
      have hp0 := hpp.cell 0 _ rfl; have hp1 := hpp.cell 1 _ rfl; have hp2 := hpp.cell 2 _ rfl; have hp3 := hpp.cell 3 _ rfl; have hp4 := hpp.cell 4 _ rfl; have hp5 := hpp.cell 5 _ rfl; have hp6 := hpp.cell 6 _ rfl; have hp7 := hpp.cell 7 _ rfl; have hp8 := hpp.cell 8 _ rfl; have hp9 := hpp.cell 9 _ rfl; have hp10 := hpp.cell 10 _ rfl
      have hq0 := hqb.cell 0 _ rfl; have hq1 := hqb.cell 1 _ rfl; have hq2 := hqb.cell 2 _ rfl; have hq3 := hqb.cell 3 _ rfl; have hq4 := hqb.cell 4 _ rfl; have hq5 := hqb.cell 5 _ rfl; have hq6 := hqb.cell 6 _ rfl
      have hd0 : (wE.alloc (.cells #[.int .i64 x6, .int .i64 x7, .int .i64 x8, .int .i64 x1, .int .i64 (g_0 * 256 + g_1), .int .i64 (g_2 * 256 + g_3), .int .i64 q6] 39)).cell? ⟨b0, o0, none⟩ = some (.int .u8 g_0) := by rw [hal.cell (p := ⟨b0, o0, none⟩) lt0]; exact hc0
      have hd1 : (wE.alloc (.cells #[.int .i64 x6, .int .i64 x7, .int .i64 x8, .int .i64 x1, .int .i64 (g_0 * 256 + g_1), .int .i64 (g_2 * 256 + g_3), .int .i64 q6] 39)).cell? ⟨b0, o0 + 1, none⟩ = some (.int .u8 g_1) := by rw [hal.cell (p := ⟨b0, o0 + 1, none⟩) lt1]; exact hc1
      have hd2 : (wE.alloc (.cells #[.int .i64 x6, .int .i64 x7, .int .i64 x8, .int .i64 x1, .int .i64 (g_0 * 256 + g_1), .int .i64 (g_2 * 256 + g_3), .int .i64 q6] 39)).cell? ⟨b0, o0 + 2, none⟩ = some (.int .u8 g_2) := by rw [hal.cell (p := ⟨b0, o0 + 2, none⟩) lt2]; exact hc2
      have hd3 : (wE.alloc (.cells #[.int .i64 x6, .int .i64 x7, .int .i64 x8, .int .i64 x1, .int .i64 (g_0 * 256 + g_1), .int .i64 (g_2 * 256 + g_3), .int .i64 q6] 39)).cell? ⟨b0, o0 + 3, none⟩ = some (.int .u8 g_3) := by rw [hal.cell (p := ⟨b0, o0 + 3, none⟩) lt3]; exact hc3
      have hzn0 : 0 < zn := by omega
      have hzn1 : 1 < zn := by omega
      have hzn2 : 2 < zn := by omega
      have hwg0 : IntKind.i64.wrap g_0 = g_0 := by rw [IntKind.wrap_i64]; omega
      have hwg1 : IntKind.i64.wrap g_1 = g_1 := by rw [IntKind.wrap_i64]; omega
      have hwg2 : IntKind.i64.wrap g_2 = g_2 := by rw [IntKind.wrap_i64]; omega
      have hwg3 : IntKind.i64.wrap g_3 = g_3 := by rw [IntKind.wrap_i64]; omega
      have hzi1 : (1 : Int) < (zn : Int) := by omega
      have hzi2 : (2 : Int) < (zn : Int) := by omega
      have hzi3 : (3 : Int) < (zn : Int) := by omega
      have hw1 : IntKind.i64.wrap (g_0 * 256) = g_0 * 256 := by rw [IntKind.wrap_i64]; omega
      have hw2 : IntKind.i64.wrap (g_0 * 256 + g_1) = g_0 * 256 + g_1 := by rw [IntKind.wrap_i64]; omega
      have hw3 : IntKind.i64.wrap (g_2 * 256) = g_2 * 256 := by rw [IntKind.wrap_i64]; omega
      have hw4 : IntKind.i64.wrap (g_2 * 256 + g_3) = g_2 * 256 + g_3 := by rw [IntKind.wrap_i64]; omega
      have hz9 : ¬ (zn : Int) < 8 := by omega
      have hzn4 : 3 < zn := by omega
      have HBz := hide (below_on HB.out hal)
      clear hal hpp hqb
      go_upto_region 20 with fail
      generalize wE.alloc (.cells #[.int .i64 x6, .int .i64 x7, .int .i64 x8, .int .i64 x1, .int .i64 (g_0 * 256 + g_1), .int .i64 (g_2 * 256 + g_3), .int .i64 q6] 39) = wF at *
      generalize wE.heap.size = F at *
      refine wp_region_lex (fun w2 => w2 = wF.drew) ((0, true) :: (1, true) :: (2, true) :: (3, true) :: (4, true) :: (5, true) :: (6, true) :: (7, true) :: (8, true) :: (9, true) :: (10, true) :: (11, true) :: (12, true) :: (13, true) :: (14, true) :: (15, true) :: (16, true) :: (17, true) :: (18, true) :: (19, true) :: (20, true) :: (21, true) :: (22, true) :: (23, true) :: (24, true) :: (25, true) :: (26, true) :: (27, true) :: (28, true) :: (29, true) :: (30, true) :: (31, true) :: (32, true) :: (33, true) :: (34, true) :: (35, true) :: (36, true) :: (37, true) :: (38, true) :: (39, true) :: (40, true) :: (41, true) :: (42, true) :: (43, true) :: (44, true) :: (45, true) :: (46, true) :: (47, true) :: (48, true) :: (49, true) :: (50, true) :: (51, true) :: (52, true) :: (53, true) :: (54, true) :: (55, true) :: (56, true) :: (57, true) :: (58, true) :: (59, true) :: (60, true) :: (61, true) :: (62, true) :: (63, true) :: (64, true) :: []) (by kernel_rfl) (by kernel_rfl) (by kernel_rfl) rfl rfl ?_
      repeat (first
        | (refine wpLex_take ?_ rfl (by rfl) (fun _ _ _ h => h) ?_ ?_; rotate_left; (intro wq hSw; subst hSw; first | (go_simp; done) | (go_simp; with_reducible rfl)); simp only [Act.put, List.setIfInBounds_toArray, List.set_cons_zero, List.set_cons_succ]))
      refine wpLex_nil ?_
      go_wp2_with fail
      go_ret
      exact ⟨rfl, (HBz.out.drew)⟩
end Go.Proofs.YthbkhfiadkookaaGreatDoor
