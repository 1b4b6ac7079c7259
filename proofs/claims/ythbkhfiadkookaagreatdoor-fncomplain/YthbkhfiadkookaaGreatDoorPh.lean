/-
Contracts of functions of this seat.
-/
import Derived.Test.YthbkhfiadkookaaGreatDoorRows
import Derived.WalkKit
import Derived.ProofKit
import Derived.OpenShut
import Derived.Deep.QuietTactic
import Derived.Below
import Derived.Laws.Externs
import Derived.OwnWalk
import Derived.BigQuiet
import Derived.ArgAppend
import Derived.RegionTactic
import Derived.ChangeAlike
import Derived.Laws.IdiomStrings
import Derived.Laws.BytesArg
import Derived.Deep.RegionHeld3
import Derived.Deep.CutRange
import Derived.LaidEql
import Derived.Stop.Asserts
import Derived.RowKitTokens
import Derived.Laws.CopyOwn
import Derived.Laws.OwnMore
import Derived.StillTailTactics
import Derived.Lib.QuietBelow
import Derived.Test.YthbkhfiadkookaaGreatDoorPg
namespace Go.Proofs.YthbkhfiadkookaaGreatDoor
open Go.ChangeShapes Go.WideShapes Go.ChangeAt Go.RowKit
set_option linter.unusedVariables false
set_option maxRecDepth 100000
set_option maxRecDepth 100000
theorem src_cells {w : World} {g t : Nat} {a b c : Value} (h : w.heap[g]? = some (.cells #[a, b, c] t)) :
    w.cell? ⟨g, 0, none⟩ = some a ∧ w.cell? ⟨g, 1, none⟩ = some b ∧ w.cell? ⟨g, 2, none⟩ = some c ∧ ∀ o, w.frozen? ⟨g, o, none⟩ = false :=
  ⟨cell_of_row w g 0 _ _ _ h, cell_of_row w g 1 _ _ _ h, cell_of_row w g 2 _ _ _ h, fun o => frozen_of_row w g o _ _ h⟩
theorem wrap_u64_bd (n : Int) : 0 ≤ IntKind.u64.wrap n ∧ IntKind.u64.wrap n ≤ 18446744073709551615 := by rw [wrap_u64]; omega
theorem xor_u64_bd (x y : Int) : 0 ≤ bits .xor .u64 x y ∧ bits .xor .u64 x y ≤ 18446744073709551615 := by
  have h := wf_bits .xor .u64 x y
  simpa [Lit.wf, IntKind.min, IntKind.max, IntKind.signed, IntKind.bits] using h
/-- A store into the block of a source changes nothing else. -/
theorem src_set {w : World} {g t j : Nat} {cur : Array Value} (u : Value) (h : w.heap[g]? = some (.cells cur t)) :
    (w.setCell ⟨g, j, none⟩ u).heap[g]? = some (.cells (cur.setIfInBounds j u) t) ∧ w.grownBy (w.setCell ⟨g, j, none⟩ u) (some g) :=
  ⟨heap_setCell_same w g j cur t u h, ⟨rfl, rfl, rfl, by simp, fun k _ hk => heap_setCell_other w ⟨g, j, none⟩ k u (fun e => hk (by simp [e]))⟩⟩
theorem grown_drewN {a w : World} {row : Option Nat} (h : a.grownBy w row) (n : Nat) : a.grownBy (w.drewN n) row := ⟨h.os, h.tape, h.output, h.size, h.block⟩
/-- Bytes that lie outside block g are the same when that block is written. -/
theorem Arr.grown {w w' : World} {g t : Nat} {a : Option Addr} {x y z : Value} {zs : List Int} (h : Arr w a zs) (hg : w.grownBy w' (some g)) (hb : w.heap[g]? = some (.cells #[x, y, z] t))
    (hx : ∀ n, x ≠ .int .u8 n) (hy : ∀ n, y ≠ .int .u8 n) (hz : ∀ n, z ≠ .int .u8 n) : Arr w' a zs := by
  refine ⟨h.1, fun j hj => ?_⟩
  obtain ⟨b, off, ha, hlt, hc⟩ := h.2 j hj
  have hne : b ≠ g := by
    rintro rfl
    rw [cell_of_row w b (off + j) _ _ _ hb] at hc
    match hoj : off + j with
    | 0 => rw [hoj] at hc; simp at hc; exact hx _ hc
    | 1 => rw [hoj] at hc; simp at hc; exact hy _ hc
    | 2 => rw [hoj] at hc; simp at hc; exact hz _ hc
    | k + 3 => rw [hoj] at hc; simp at hc
  refine ⟨b, off, ha, Nat.lt_of_lt_of_le hlt hg.size, ?_⟩
  exact hg.cell hc (by simp [hne])
theorem rem_bd {x n : Int} (hx : 0 ≤ x) (hn : 0 < n) (hn1 : n ≤ 9223372036854775807) : 0 ≤ wrap64 (x.tmod n) ∧ wrap64 (x.tmod n) < n := by
  rw [Int.tmod_eq_emod_of_nonneg hx]
  have h1 := Int.emod_nonneg x (show n ≠ 0 by omega)
  have h2 := Int.emod_lt_of_pos x hn
  unfold wrap64
  omega
theorem rem_bd' {x n : Int} (hn : 0 < n) (hn1 : n ≤ 9223372036854775807) : 0 ≤ wrap64 (x % n) ∧ wrap64 (x % n) < n := by
  have h1 := Int.emod_nonneg x (show n ≠ 0 by omega)
  have h2 := Int.emod_lt_of_pos x hn
  unfold wrap64
  omega

/-- A source of numbers in block g whose code is the slice (a, n, cap). -/
def SrcA (w : World) (g t n : Nat) (a : Option Addr) (cap : Nat) : Prop :=
  ∃ (pos st : Int), w.heap[g]? = some (.cells #[.slice a n cap, .int .i64 pos, .int .u64 st] t) ∧ 0 ≤ pos ∧ pos ≤ (n : Int) ∧ 0 ≤ st ∧ st ≤ 18446744073709551615
theorem SrcA.lt {w : World} {g t n : Nat} {a : Option Addr} {cap : Nat} (h : SrcA w g t n a cap) : g < w.heap.size := by
  obtain ⟨pos, st, hg, _⟩ := h
  by_cases hlt : g < w.heap.size
  · exact hlt
  · rw [Array.getElem?_eq_none (by omega)] at hg; cases hg
/-- Only what happens to its own block counts for a source. -/
theorem SrcA.same {w w' : World} {g t n : Nat} {a : Option Addr} {cap : Nat} (h : SrcA w g t n a cap) (hb : w'.heap[g]? = w.heap[g]?) : SrcA w' g t n a cap := by
  obtain ⟨pos, st, hg, r⟩ := h
  exact ⟨pos, st, by rw [hb]; exact hg, r⟩
theorem SrcA.alloc {w : World} {g t n : Nat} {a : Option Addr} {cap : Nat} (h : SrcA w g t n a cap) (o : Obj) : SrcA (w.alloc o) g t n a cap :=
  h.same (Below.heap_alloc w o g h.lt)
theorem SrcA.below {w w' : World} {B g t n : Nat} {a : Option Addr} {cap : Nat} (h : SrcA w g t n a cap) (hb : Below B w w') (hB : w.heap.size ≤ B) : SrcA w' g t n a cap :=
  h.same (hb.block g (Nat.lt_of_lt_of_le h.lt hB))
/-- Bytes elsewhere are the same behind whatever leaves all but the source's block as it was. -/
theorem Arr.srcA {w w' : World} {g t n cap : Nat} {a b : Option Addr} {zs : List Int} (h : Arr w b zs) (hs : SrcA w g t n a cap) (hg : w.grownBy w' (some g)) : Arr w' b zs := by
  obtain ⟨pos, st, hb, _⟩ := hs
  exact h.grown hg hb (by simp) (by simp) (by simp)
theorem grown_alloc {a w : World} {row : Option Nat} (h : a.grownBy w row) (o : Obj) : a.grownBy (w.alloc o) row := grown_trans h (World.grownBy_alloc w o row)
theorem grown_below {a w w' : World} {row : Option Nat} (h : a.grownBy w row) (hb : Below w.heap.size w w') : a.grownBy w' row :=
  ⟨hb.os.trans h.os, hb.tape.trans h.tape, hb.output.trans h.output, Nat.le_trans h.size hb.size, fun k hk hr => (hb.block k (Nat.lt_of_lt_of_le hk h.size)).trans (h.block k hk hr)⟩
theorem below_grown {w w' : World} {g : Nat} {B : Nat} (hB : B ≤ g) (hw : B ≤ w.heap.size) (h : w.grownBy w' (some g)) : Below B w w' :=
  ⟨h.os, h.tape, h.output, h.size, fun k hk => h.block k (by omega) (by simp; omega)⟩

set_option maxHeartbeats 1000000 in
theorem l01Next_more (g : Nat) (n : Int) (zs : List Int) (w : World) (a : Option Addr) (cap k : Nat) (st : Int) (hb : w.heap[g]? = some (.cells #[.slice a zs.length cap, .int .i64 (k : Int), .int .u64 st] 45)) (harr : Arr w a zs)
    (hk : k < zs.length) (hs0 : 0 ≤ st) (hs1 : st ≤ 18446744073709551615) (hn : 0 < n) (hn1 : n ≤ 9223372036854775807) (hl : zs.length ≤ 2097152) :
    Calls Tryz.prog 16 #[.pointer (some ⟨g, 0, none⟩), .int .i64 n] w fun e w' => ∃ r : Int, e = .returned (.int .i64 r) ∧ 0 ≤ r ∧ r < n ∧ w.grownBy w' (some g) ∧ SrcA w' g 45 zs.length a cap := by
  obtain ⟨c0, c1, c2, hf⟩ := src_cells hb
  have HB := hide hb
  have HA := hide harr
  clear hb harr
  generalize hlen : zs.length = len at *
  have HL := hide hlen
  clear hlen
  go_enter Tryz.func16, Tryz.ntmps16
  go_wp2_with fail
  have hs2 := wrap_u64_bd (IntKind.u64.wrap (st * 6364136223846793005) + 1442695040888963407)
  generalize IntKind.u64.wrap (IntKind.u64.wrap (st * 6364136223846793005) + 1442695040888963407) = s1 at *
  obtain ⟨hb1, hg1⟩ := src_set (j := 2) (.int .u64 s1) HB.out
  have hb1' : (w.setCell ⟨g, 2, none⟩ (.int .u64 s1)).heap[g]? = some (.cells #[.slice a len cap, .int .i64 (k : Int), .int .u64 s1] 45) := hb1
  have HA1 := hide (HA.out.grown hg1 HB.out (by simp) (by simp) (by simp))
  clear hb1 c0 c1 c2 hf
  generalize w.setCell ⟨g, 2, none⟩ (.int .u64 s1) = W1 at *
  obtain ⟨c0, c1, c2, hf⟩ := src_cells hb1'
  have HB1 := hide hb1'
  clear hb1'
  go_quiet (fail)
  revert nq
  intro nq1
  go_wp2_with fail
  obtain ⟨b, off, rfl, hbs, hc⟩ := HA1.out.2 k (by rw [HL.out]; exact hk)
  go_quiet (fail)
  go_wp2_with fail
  go_ret
  obtain ⟨hb2, hg2⟩ := src_set (w := W1.drewN (nq1 + nq)) (j := 1) (.int .i64 ((k : Int) + 1)) HB1.out
  have hr := rem_bd (xor_u64_bd (s1 / 8589934592) (IntKind.u64.wrap (zs[k]?.getD 0))).1 hn hn1
  have hG := grown_trans (grown_drewN hg1 (nq1 + nq)) hg2
  refine ⟨_, rfl, hr.1, hr.2, hG, (k : Int) + 1, s1, hb2, by omega, by omega, hs2.1, hs2.2⟩
set_option maxHeartbeats 1000000 in
theorem l01Next_end (g : Nat) (n : Int) (zs : List Int) (w : World) (a : Option Addr) (cap k : Nat) (st : Int) (hb : w.heap[g]? = some (.cells #[.slice a zs.length cap, .int .i64 (k : Int), .int .u64 st] 45)) (harr : Arr w a zs)
    (hk : k = zs.length) (hs0 : 0 ≤ st) (hs1 : st ≤ 18446744073709551615) (hn : 0 < n) (hn1 : n ≤ 9223372036854775807) (hl : zs.length ≤ 2097152) :
    Calls Tryz.prog 16 #[.pointer (some ⟨g, 0, none⟩), .int .i64 n] w fun e w' => ∃ r : Int, e = .returned (.int .i64 r) ∧ 0 ≤ r ∧ r < n ∧ w.grownBy w' (some g) ∧ SrcA w' g 45 zs.length a cap := by
  obtain ⟨c0, c1, c2, hf⟩ := src_cells hb
  have HB := hide hb
  have HA := hide harr
  clear hb harr
  have hkl : ¬ (k : Int) < (zs.length : Int) := by omega
  generalize hlen : zs.length = len at *
  have HL := hide hlen
  clear hlen
  have HK := hide hk
  clear hk
  go_enter Tryz.func16, Tryz.ntmps16
  go_wp2_with fail
  have hs2 := wrap_u64_bd (IntKind.u64.wrap (st * 6364136223846793005) + 1442695040888963407)
  generalize IntKind.u64.wrap (IntKind.u64.wrap (st * 6364136223846793005) + 1442695040888963407) = s1 at *
  obtain ⟨hb1, hg1⟩ := src_set (j := 2) (.int .u64 s1) HB.out
  have hb1' : (w.setCell ⟨g, 2, none⟩ (.int .u64 s1)).heap[g]? = some (.cells #[.slice a len cap, .int .i64 (k : Int), .int .u64 s1] 45) := hb1
  have HA1 := hide (HA.out.grown hg1 HB.out (by simp) (by simp) (by simp))
  clear hb1 c0 c1 c2 hf
  generalize w.setCell ⟨g, 2, none⟩ (.int .u64 s1) = W1 at *
  obtain ⟨c0, c1, c2, hf⟩ := src_cells hb1'
  have HB1 := hide hb1'
  clear hb1'
  go_quiet (fail)
  go_wp2_with fail
  go_ret
  have hr := rem_bd' (x := s1 / 8589934592) hn hn1
  refine ⟨_, rfl, hr.1, hr.2, grown_drewN hg1 nq, (k : Int), s1, HB1.out, by omega, by have h1 := HK.out; omega, hs2.1, hs2.2⟩
theorem l01Next_walk (g : Nat) (n : Int) (zs : List Int) (w : World) (a : Option Addr) (cap : Nat) (harr : Arr w a zs) (h : SrcA w g 45 zs.length a cap) (hn : 0 < n) (hn1 : n ≤ 9223372036854775807) (hl : zs.length ≤ 2097152) :
    Calls Tryz.prog 16 #[.pointer (some ⟨g, 0, none⟩), .int .i64 n] w fun e w' => ∃ r : Int, e = .returned (.int .i64 r) ∧ 0 ≤ r ∧ r < n ∧ w.grownBy w' (some g) ∧ SrcA w' g 45 zs.length a cap := by
  obtain ⟨pos, st, hb, hp0, hp1, hs0, hs1⟩ := h
  obtain ⟨k, rfl⟩ := Int.eq_ofNat_of_zero_le hp0
  by_cases hk : k < zs.length
  · exact l01Next_more g n zs w a cap k st hb harr hk hs0 hs1 hn hn1 hl
  · exact l01Next_end g n zs w a cap k st hb harr (by omega) hs0 hs1 hn hn1 hl

set_option maxHeartbeats 1000000 in
theorem l02Host_walk (g : Nat) (zs : List Int) (w : World) (a : Option Addr) (cap : Nat) (harr : Arr w a zs) (hsrc : SrcA w g 45 zs.length a cap) (hl : zs.length ≤ 2097152) :
    Calls Tryz.prog 17 #[.pointer (some ⟨g, 0, none⟩)] w fun e w' => ∃ r : Int, e = .returned (.int .i64 r) ∧ 167772161 ≤ r ∧ r ≤ 167772422 ∧ w.grownBy w' (some g) ∧ SrcA w' g 45 zs.length a cap := by
  have HA0 := hide harr
  have HS0 := hide hsrc
  clear harr hsrc
  go_enter Tryz.func17, Tryz.ntmps17
  go_wp2_with fail
  refine (l01Next_walk _ _ zs _ a cap HA0.out HS0.out (by omega) (by omega) hl).mono ?_
  rintro e w1 ⟨r, rfl, r0, r1, hn1, hs1⟩
  have HS1 := hide hs1
  have HA1 := hide (HA0.out.srcA HS0.out hn1)
  clear hs1
  go_wp2_with fail
  refine (l01Next_walk _ _ zs _ a cap HA1.out HS1.out (by omega) (by omega) hl).mono ?_
  rintro e w2 ⟨q, rfl, q0, q1, hn2, hs2⟩
  have HS2 := hide hs2
  have HA2 := hide (HA1.out.srcA HS1.out hn2)
  clear hs2
  go_wp2_with fail
  go_ret
  exact ⟨_, rfl, by omega, by omega, grown_trans hn1 hn2, HS2.out⟩

set_option maxHeartbeats 1000000 in
theorem l02Wide_walk (g : Nat) (zs : List Int) (w : World) (a : Option Addr) (cap : Nat) (harr : Arr w a zs) (hsrc : SrcA w g 45 zs.length a cap) (hl : zs.length ≤ 2097152) :
    Calls Tryz.prog 81 #[.pointer (some ⟨g, 0, none⟩)] w fun e w' => ∃ r : Int, e = .returned (.int .i64 r) ∧ 0 ≤ r ∧ r ≤ 4294967295 ∧ w.grownBy w' (some g) ∧ SrcA w' g 45 zs.length a cap := by
  have HA0 := hide harr
  have HS0 := hide hsrc
  clear harr hsrc
  go_enter Tryz.func81, Tryz.ntmps81
  go_wp2_with fail
  refine (l01Next_walk _ _ zs _ a cap HA0.out HS0.out (by omega) (by omega) hl).mono ?_
  rintro e w1 ⟨r, rfl, r0, r1, hn1, hs1⟩
  have HS1 := hide hs1
  have HA1 := hide (HA0.out.srcA HS0.out hn1)
  clear hs1
  go_wp2_with fail
  refine (l01Next_walk _ _ zs _ a cap HA1.out HS1.out (by omega) (by omega) hl).mono ?_
  rintro e w2 ⟨q, rfl, q0, q1, hn2, hs2⟩
  have HS2 := hide hs2
  have HA2 := hide (HA1.out.srcA HS1.out hn2)
  clear hs2
  go_wp2_with fail
  go_ret
  exact ⟨_, rfl, by omega, by omega, grown_trans hn1 hn2, HS2.out⟩
set_option maxHeartbeats 2000000 in
theorem l02Addr_walk (g : Nat) (zs : List Int) (w : World) (a : Option Addr) (cap : Nat) (harr : Arr w a zs) (hsrc : SrcA w g 45 zs.length a cap) (hl : zs.length ≤ 2097152) :
    Calls Tryz.prog 55 #[.pointer (some ⟨g, 0, none⟩)] w fun e w' => ∃ r : Int, e = .returned (.int .i64 r) ∧ -1 ≤ r ∧ r ≤ 4294967296 ∧ w.grownBy w' (some g) ∧ SrcA w' g 45 zs.length a cap := by
  have HA0 := hide harr
  have HS0 := hide hsrc
  clear harr hsrc
  go_enter Tryz.func55, Tryz.ntmps55
  go_wp2_with fail
  refine (l01Next_walk _ _ zs _ a cap HA0.out HS0.out (by omega) (by omega) hl).mono ?_
  rintro e w1 ⟨r, rfl, r0, r1, hn1, hs1⟩
  have HS1 := hide hs1
  have HA1 := hide (HA0.out.srcA HS0.out hn1)
  clear hs1
  by_cases hr : r = 0
  · subst hr
    go_wp2_with fail
    refine (l02Wide_walk _ zs _ a cap HA1.out HS1.out hl).mono ?_
    rintro e w2 ⟨q, rfl, q0, q1, hn2, hs2⟩
    go_wp2_with fail
    go_ret
    exact ⟨_, rfl, by omega, by omega, grown_trans hn1 hn2, hs2⟩
  · by_cases hr1 : r = 1
    · subst hr1
      go_wp2_with fail
      have hblk : (w1.alloc (.cells #[.int .i64 0, .int .i64 4294967295, .int .i64 2130706433, .int .i64 3758096389, .int .i64 4026531840, .int .i64 167772415, .int .i64 (-1), .int .i64 4294967296, .int .i64 3758096384, .int .i64 4026531839] 2)).heap[w1.heap.size]? = some (.cells #[.int .i64 0, .int .i64 4294967295, .int .i64 2130706433, .int .i64 3758096389, .int .i64 4026531840, .int .i64 167772415, .int .i64 (-1), .int .i64 4294967296, .int .i64 3758096384, .int .i64 4026531839] 2) := heap_alloc_new w1 _
      have HSW := hide (HS1.out.alloc (.cells #[.int .i64 0, .int .i64 4294967295, .int .i64 2130706433, .int .i64 3758096389, .int .i64 4026531840, .int .i64 167772415, .int .i64 (-1), .int .i64 4294967296, .int .i64 3758096384, .int .i64 4026531839] 2))
      have HAW := hide (HA1.out.below ((Below.refl w1.heap.size w1).alloc (Nat.le_refl _) (.cells #[.int .i64 0, .int .i64 4294967295, .int .i64 2130706433, .int .i64 3758096389, .int .i64 4026531840, .int .i64 167772415, .int .i64 (-1), .int .i64 4294967296, .int .i64 3758096384, .int .i64 4026531839] 2)) (Nat.le_refl _))
      have hgW := grown_alloc hn1 (.cells #[.int .i64 0, .int .i64 4294967295, .int .i64 2130706433, .int .i64 3758096389, .int .i64 4026531840, .int .i64 167772415, .int .i64 (-1), .int .i64 4294967296, .int .i64 3758096384, .int .i64 4026531839] 2)
      have hszW : w1.heap.size < (w1.alloc (.cells #[.int .i64 0, .int .i64 4294967295, .int .i64 2130706433, .int .i64 3758096389, .int .i64 4026531840, .int .i64 167772415, .int .i64 (-1), .int .i64 4294967296, .int .i64 3758096384, .int .i64 4026531839] 2)).heap.size := by rw [World.size_alloc]; omega
      generalize w1.alloc (.cells #[.int .i64 0, .int .i64 4294967295, .int .i64 2130706433, .int .i64 3758096389, .int .i64 4026531840, .int .i64 167772415, .int .i64 (-1), .int .i64 4294967296, .int .i64 3758096384, .int .i64 4026531839] 2) = W at *
      refine (l01Next_walk _ _ zs _ a cap HAW.out HSW.out (by omega) (by omega) hl).mono ?_
      rintro e w2 ⟨q, rfl, q0, q1, hn2, hs2⟩
      have hglt := HS1.out.lt
      have hblk2 := (hn2.block w1.heap.size hszW (by simp; omega)).trans hblk
      have hc := fun o => cell_of_row w2 w1.heap.size o _ _ _ hblk2
      have HS2 := hide hs2
      clear hblk hblk2 hs2
      obtain ⟨k, rfl⟩ := Int.eq_ofNat_of_zero_le q0
      rcases (show k = 0 ∨ k = 1 ∨ k = 2 ∨ k = 3 ∨ k = 4 ∨ k = 5 ∨ k = 6 ∨ k = 7 ∨ k = 8 ∨ k = 9 by omega) with rfl | rfl | rfl | rfl | rfl | rfl | rfl | rfl | rfl | rfl
      all_goals
        go_wp2_with fail
        go_ret
        exact ⟨_, rfl, by omega, by omega, grown_trans hgW hn2, HS2.out⟩
    · have b1 : (r == 0) = false := by rw [beq_eq_false_iff_ne]; exact hr
      have b2 : (r == 1) = false := by rw [beq_eq_false_iff_ne]; exact hr1
      clear hr hr1
      go_wp2_with fail
      refine (l01Next_walk _ _ zs _ a cap HA1.out HS1.out (by omega) (by omega) hl).mono ?_
      rintro e w2 ⟨q, rfl, q0, q1, hn2, hs2⟩
      have HS2 := hide hs2
      have HA2 := hide (HA1.out.srcA HS1.out hn2)
      clear hs2
      go_wp2_with fail
      go_ret
      exact ⟨_, rfl, by omega, by omega, grown_trans hn1 hn2, HS2.out⟩

abbrev srT : Nat := 45
/-- A source under way since w0: it alone, of what there was, has been written. -/
def DSr (w0 W : World) (g : Nat) (a : Option Addr) (cap : Nat) (zs : List Int) : Prop := Arr W a zs ∧ SrcA W g srT zs.length a cap ∧ w0.grownBy W (some g) ∧ g < w0.heap.size
theorem DSr.step {w0 W W' : World} {g cap : Nat} {a : Option Addr} {zs : List Int} (h : DSr w0 W g a cap zs) (hg : W.grownBy W' (some g)) (hs : SrcA W' g srT zs.length a cap) : DSr w0 W' g a cap zs := ⟨h.1.srcA h.2.1 hg, hs, grown_trans h.2.2.1 hg, h.2.2.2⟩
theorem DSr.next {w0 W W' : World} {g cap : Nat} {a : Option Addr} {zs : List Int} (h : DSr w0 W g a cap zs) (hb : Below W.heap.size W W') : DSr w0 W' g a cap zs := ⟨h.1.below hb (Nat.le_refl _), h.2.1.below hb (Nat.le_refl _), grown_below h.2.2.1 hb, h.2.2.2⟩
theorem DSr.alloc {w0 W : World} {g cap : Nat} {a : Option Addr} {zs : List Int} (h : DSr w0 W g a cap zs) (o : Obj) : DSr w0 (W.alloc o) g a cap zs := h.next ((Below.refl _ _).alloc (Nat.le_refl _) _)
theorem DSr.start {w : World} {g cap : Nat} {a : Option Addr} {zs : List Int} (harr : Arr w a zs) (hsrc : SrcA w g srT zs.length a cap) : DSr w w g a cap zs := ⟨harr, hsrc, ⟨rfl, rfl, rfl, Nat.le_refl _, fun _ _ _ => rfl⟩, hsrc.lt⟩
theorem HoldV.gr {W W' : World} {p g T : Nat} {vs : Array Value} (h : HoldV W p vs T) (hg : W.grownBy W' (some g)) (hne : p ≠ g) : HoldV W' p vs T := (hg.block p h.lt (fun e => hne (Option.some.inj e))).trans h
theorem l01Bool_walk (g : Nat) (zs : List Int) (w : World) (a : Option Addr) (cap : Nat) (harr : Arr w a zs) (hsrc : SrcA w g srT zs.length a cap) (hl : zs.length ≤ 2097152) :
    Calls Tryz.prog 54 #[.pointer (some ⟨g, 0, none⟩)] w fun e w' => ∃ r : Int, e = .returned (.bool (r == 0)) ∧ w.grownBy w' (some g) ∧ SrcA w' g srT zs.length a cap := by
  go_enter Tryz.func54, Tryz.ntmps54
  go_wp2_with fail
  refine (l01Next_walk g 2 zs w a cap harr hsrc (by omega) (by omega) hl).mono ?_
  rintro e w1 ⟨r, rfl, h0, h1, hg, hs⟩
  go_wp2_with fail
  go_ret
  exact ⟨r, rfl, hg, hs⟩
theorem OwnB.gr {w w' : World} {B g : Nat} {v : Value} {zs : List Int} (h : OwnB w B v zs) (hg : w.grownBy w' (some g)) (hB : g < B) : OwnB w' B v zs := by
  refine ⟨⟨h.1.1, ?_⟩, h.2⟩
  rcases h.1.2 with hn | ⟨r, cap, cur, hv, hr, hc, rest⟩
  · exact .inl hn
  · have hlt : r < w.heap.size := (Array.getElem?_eq_some_iff.1 hc).1
    exact .inr ⟨r, cap, cur, hv, hr, (hg.block r hlt (by intro e; cases e; omega)).trans hc, rest⟩
theorem grown_low {a w w' : World} {row : Option Nat} (h : a.grownBy w row) (hb : Below a.heap.size w w') : a.grownBy w' row :=
  ⟨hb.os.trans h.os, hb.tape.trans h.tape, hb.output.trans h.output, Nat.le_trans h.size hb.size, fun i hi hn => (hb.block i hi).trans (h.block i hi hn)⟩
set_option maxHeartbeats 2000000 in
theorem l01Bytes_walk (g : Nat) (n : Nat) (zs : List Int) (w : World) (a : Option Addr) (cap : Nat) (harr : Arr w a zs) (hsrc : SrcA w g 45 zs.length a cap) (hl : zs.length ≤ 2097152) (hn : n ≤ 100000) :
    Calls Tryz.prog 80 #[.pointer (some ⟨g, 0, none⟩), .int .i64 (n : Int)] w fun e w' => ∃ (u : Value) (ys : List Int), e = .returned u ∧ ys.length = n ∧ OwnB w' w.heap.size u ys ∧ w.grownBy w' (some g) ∧ SrcA w' g 45 zs.length a cap := by
  obtain ⟨i, hi, hz0, hz1, hz2⟩ := info_parts Tryz.infoB
  have hgw : g < w.heap.size := hsrc.lt
  have hst : OwnB (w.alloc (.cells #[] 5)) w.heap.size (.slice (some ⟨w.heap.size, 0, none⟩) 0 0) [] :=
    ⟨World.ownsRow_lit (base := w.heap.size) (e := 5) (size := 1) w #[] 0 (Nat.le_refl _) (by decide) rfl, by simp⟩
  have HST := hide hst
  have HD0 := hide ((DSr.start harr hsrc).alloc (.cells #[] 5))
  have HAR := hide harr
  have HSR := hide hsrc
  clear hst harr hsrc
  go_enter Tryz.func80, Tryz.ntmps80
  go_wp2_with fail
  generalize w.alloc (.cells #[] 5) = W at *
  go_loopw [5, 6] (fun o t w2 => ∃ (k : Nat) (ys : List Int), k ≤ n ∧ t = .int .i64 (k : Int) ∧ ys.length = k ∧ Hid (OwnB w2 w.heap.size o ys) ∧ Hid (DSr w w2 g a cap zs)) (fun _ t _ => n - (intOf t).toNat)
  case atStart => exact ⟨0, [], Nat.zero_le _, rfl, rfl, HST, HD0⟩
  case round =>
    obtain ⟨k, ys, hk, rfl, hy, HO, HD⟩ := hrel
    have HY := hide hy
    clear hy
    by_cases hlt : k < n
    · have CN := hide (l01Next_walk g 256 zs wr a cap HD.out.1 HD.out.2.1 (by omega) (by omega) hl)
      go_wp2_with fail
      refine CN.out.mono ?_
      rintro e w1 ⟨r, rfl, r0, r1, hg1, hs1⟩
      have HD1 := hide (HD.out.step hg1 hs1)
      have HO1 := hide (HO.out.gr hg1 hgw)
      have e1 : IntKind.u8.wrap r = r := by rw [IntKind.wrap_u8]; omega
      clear CN hg1 hs1 HD HO
      go_wp2_with (first | (at_builtin; refine wpList_append_own _ rfl _ _ 22 rfl w.heap.size 5 i _ 1 1 Tryz.underlying22 hi hz0 hz1 hz2 rfl (by decide) u5 ys.length (bval ys) rfl (HO1.out.1.alloc _) ⟨w1.heap.size, 0, none⟩ 1 1 (bval [_]) rfl rfl (cell_one _ _ _) (oneCells _) (by have := HY.out; unfold maxLen; omega) (by have := HY.out; omega) (by have := HD1.out.2.2.1.size; rw [World.size_alloc]; omega) ?_))
      intro v' w3 hown' hgrow hnil
      have hlo := HO1.out.1.lt
      have HO3 := hide (OwnB.app hown' rfl HO1.out.2 (by intro y hy; simp at hy; subst hy; exact ⟨r0, by omega⟩))
      have hga : w.grownBy (w1.alloc (.cells #[.int .u8 r] 5)) (some g) := grown_alloc HD1.out.2.2.1 _
      have hb3 : Below w.heap.size (w1.alloc (.cells #[.int .u8 r] 5)) w3 := (Below.refl _ _).grown hgrow (by have := HD1.out.2.2.1.size; rw [World.size_alloc]; omega) (fun k hk => (hlo k hk).1)
      have hg3 : w.grownBy w3 (some g) := grown_low hga hb3
      have HD3 : Hid (DSr w w3 g a cap zs) := hide ⟨HAR.out.srcA HSR.out hg3, (HD1.out.2.1.alloc (.cells #[.int .u8 r] 5)).same (hb3.block g hgw), hg3, hgw⟩
      clear hga hb3 hg3
      clear hown' hnil hgrow hlo
      go_wp2_with fail
      exact ⟨⟨k + 1, ys ++ [r], by omega, by go_num, by rw [List.length_append, HY.out]; rfl, HO3, HD3⟩, by simp [intOf]; omega⟩
    · have hk' : k = n := by omega
      subst hk'
      go_wp2_with fail
      go_ret
      exact ⟨u5, ys, rfl, HY.out, HO.out, HD.out.2.2.1, HD.out.2.1⟩

/-- The values v k laid into the operations' places. -/
def putAll (v : Nat → Value) : Nat → List Oper → Act → Act
  | _, [], a => a
  | k, o :: r, a => putAll v (k + 1) r (a.put o.dst (v k))
def dstsApart : List Oper → Bool
  | [] => true
  | o :: r => (match o.dst with | none => true | some d => r.all (fun o' => o'.dst != some d)) && dstsApart r
def inTurn : Nat → List Oper → Bool
  | _, [] => true
  | k, o :: r => o.after.all (fun e => !Region.binds .any e || decide (e.on < k)) && inTurn (k + 1) r
/-- Whom an operation waits for. -/
def predsOf (o : Oper) : List Nat := (o.after.toList.filter (Region.binds .any)).map (·.on)
def AllOf (A : Nat → Value → World → Prop) (v : Nat → Value) (w : World) : List Nat → Prop
  | [] => True
  | j :: r => A j (v j) w ∧ AllOf A v w r
theorem allOf_mem {A : Nat → Value → World → Prop} {v : Nat → Value} {w : World} : ∀ {l : List Nat}, (∀ j ∈ l, A j (v j) w) → AllOf A v w l
  | [], _ => trivial
  | _ :: _, h => ⟨h _ (List.mem_cons_self ..), allOf_mem (fun j hj => h j (List.mem_cons_of_mem _ hj))⟩
theorem put_same (a : Act) (d : Option Tmp) : a.put d (match d with | some t => a.tmps.getD t undef | none => undef) = a := by
  cases d with
  | none => rfl
  | some t =>
    simp only [Act.put]
    congr 1
    by_cases h : t < a.tmps.size
    · simp [Array.setIfInBounds, h]
    · simp [Array.setIfInBounds, h]
theorem put_put (a : Act) (d : Option Tmp) (u v : Value) : (a.put d u).put d v = a.put d v := by
  cases d with
  | none => rfl
  | some t => simp [Act.put]
theorem putAll_self (a : Act) : ∀ (l : List Oper) (k : Nat) (v : Nat → Value), (∀ (i : Nat) (o : Oper), l[i]? = some o → v (k + i) = (match o.dst with | some t => a.tmps.getD t undef | none => undef)) → putAll v k l a = a
  | [], _, _, _ => rfl
  | o :: r, k, v, h => by
    have h0 := h 0 o rfl
    rw [Nat.add_zero] at h0
    rw [putAll, h0, put_same]
    exact putAll_self a r (k + 1) v (fun i o' ho => by have := h (i + 1) o' (by simpa using ho); rwa [show k + (i + 1) = k + 1 + i by omega] at this)
theorem put_out (o : Oper) (u : Value) (v : Nat → Value) : ∀ (l : List Oper) (k : Nat) (a : Act), (match o.dst with | none => true | some d => l.all (fun o' => o'.dst != some d)) = true → (putAll v k l a).put o.dst u = putAll v k l (a.put o.dst u)
  | [], _, _, _ => rfl
  | o' :: r, k, a, h => by
    cases hd : o.dst with
    | none => rfl
    | some d =>
      rw [hd] at h
      simp only [List.all_cons, Bool.and_eq_true] at h
      rw [putAll, putAll, ← hd, put_out o u v r (k + 1) _ (by rw [hd]; exact h.2)]
      congr 1
      refine Act.put_comm a _ _ ?_
      intro d' h1 h2
      rw [hd] at h2; cases h2
      have := h.1
      rw [h1] at this
      simp at this
theorem putAll_put : ∀ (l : List Oper) (k i : Nat) (o : Oper) (u : Value) (v : Nat → Value) (a : Act), dstsApart l = true → l[i]? = some o →
    (putAll v k l a).put o.dst u = putAll (fun j => if j = k + i then u else v j) k l a
  | [], _, _, _, _, _, _, _, h => by simp at h
  | o' :: r, k, 0, o, u, v, a, hd, h => by
    simp only [List.getElem?_cons_zero, Option.some.injEq] at h
    subst h
    simp only [dstsApart, Bool.and_eq_true] at hd
    rw [putAll, put_out o' u v r (k + 1) _ hd.1, put_put, putAll]
    simp only [Nat.add_zero, if_true]
    exact putAll_congr r (k + 1) _ _ _ (fun i _ => by simp; omega)
  | o' :: r, k, i + 1, o, u, v, a, hd, h => by
    simp only [dstsApart, Bool.and_eq_true] at hd
    rw [putAll, putAll_put r (k + 1) i o u v _ hd.2 (by simpa using h), putAll]
    rw [if_neg (by omega)]
    exact putAll_congr r (k + 1) _ _ _ (fun i' _ => by rw [show k + 1 + i = k + (i + 1) by omega])
where
  putAll_congr : ∀ (l : List Oper) (k : Nat) (v v' : Nat → Value) (a : Act), (∀ i, i < l.length → v (k + i) = v' (k + i)) → putAll v k l a = putAll v' k l a
  | [], _, _, _, _, _ => rfl
  | o :: r, k, v, v', a, h => by
    have h0 := h 0 (by simp)
    rw [Nat.add_zero] at h0
    rw [putAll, putAll, h0]
    exact putAll_congr r (k + 1) v v' _ (fun i hi => by have := h (i + 1) (by simpa using hi); rwa [show k + (i + 1) = k + 1 + i by omega] at this)
theorem inTurn_get : ∀ (l : List Oper) (k i : Nat) (o : Oper), inTurn k l = true → l[i]? = some o → ∀ e ∈ o.after, Region.binds .any e = true → e.on < k + i
  | [], _, _, _, _, h => by simp at h
  | o' :: r, k, 0, o, hd, h => by
    simp only [List.getElem?_cons_zero, Option.some.injEq] at h
    subst h
    simp only [inTurn, Bool.and_eq_true, Array.all_eq_true'] at hd
    intro e he hb
    have := hd.1 e he
    simpa [hb] using this
  | o' :: r, k, i + 1, o, hd, h => by
    simp only [inTurn, Bool.and_eq_true] at hd
    intro e he hb
    have := inTurn_get r (k + 1) i o hd.2 (by simpa using h) e he hb
    omega
section
variable {P : Program} {ops : Array Oper} {Q : Exit → Act → World → Prop} (R : World → World → Prop) (B : World → Prop) (A : Nat → Value → World → Prop)
/-- What is asked of one operation: from what those have left that it waits for, it leaves its own. -/
def EachOp (P : Program) (ops : Array Oper) (Q : Exit → Act → World → Prop) (R : World → World → Prop) (B : World → Prop) (A : Nat → Value → World → Prop) (a : Act) (i : Nat) (o : Oper) : Prop :=
  ∀ (v : Nat → Value) (w : World), B w → AllOf A v w (predsOf o) → ∀ K : Act → World → Prop, (∀ u w', R w w' → B w' → A i u w' → K ((putAll v 0 ops.toList a).put o.dst u) w') →
    if Region.wanted o (yielded ops (putAll v 0 ops.toList a).tmps) = true then Oper.wp P o (putAll v 0 ops.toList a) w K Q else K ((putAll v 0 ops.toList a).put o.dst undef) w
def EachOps (P : Program) (ops : Array Oper) (Q : Exit → Act → World → Prop) (R : World → World → Prop) (B : World → Prop) (A : Nat → Value → World → Prop) (a : Act) : Nat → List Oper → Prop
  | _, [] => True
  | i, o :: r => EachOp P ops Q R B A a i o ∧ EachOps P ops Q R B A a (i + 1) r
theorem eachOps_get {a : Act} : ∀ (l : List Oper) (k i : Nat) (o : Oper), EachOps P ops Q R B A a k l → l[i]? = some o → EachOp P ops Q R B A a (k + i) o
  | [], _, _, _, _, h => by simp at h
  | o' :: r, k, 0, o, hd, h => by
    simp only [List.getElem?_cons_zero, Option.some.injEq] at h
    subst h
    exact hd.1
  | o' :: r, k, i + 1, o, hd, h => by
    have := eachOps_get r (k + 1) i o hd.2 (by simpa using h)
    rwa [show k + 1 + i = k + (i + 1) by omega] at this
theorem each_any {a : Act} (hd : dstsApart ops.toList = true) (ht : inTurn 0 ops.toList = true) (hst : ∀ k v w w', R w w' → A k v w → A k v w')
    (he : EachOps P ops Q R B A a 0 ops.toList) (hf : ∀ v w, B w → (∀ i, i < ops.size → A i (v i) w) → Q .normal (putAll v 0 ops.toList a) w) :
    ∀ (fuel : Nat) (listed : Array Bool) (v : Nat → Value) (w : World), listed.size = ops.size → listed.toList.countP (fun b => !b) ≤ fuel → B w → (∀ i, listed.getD i false = true → A i (v i) w) →
      wpAny P .any ops Q fuel listed (putAll v 0 ops.toList a) w := by
  have done : ∀ (listed : Array Bool) (v : Nat → Value) (w : World), listed.size = ops.size → B w → (∀ i, listed.getD i false = true → A i (v i) w) → Region.ready .any ops listed = [] → Q .normal (putAll v 0 ops.toList a) w := by
    intro listed v w hs hB hA hr
    have all : ∀ n i, i < n → i < ops.size → listed.getD i false = true := by
      intro n
      induction n with
      | zero => intro i hi; omega
      | succ n ih =>
        intro i hi hi2
        by_cases hl : listed.getD i false = true
        · exact hl
        · exfalso
          have hm : i ∈ Region.ready .any ops listed := by
            refine mem_ready.2 ⟨?_, ops[i], by simp [hi2], ?_⟩
            · have h1 : i < listed.size := by omega
              simp [h1] at hl ⊢
              exact hl
            · intro e he' hb
              have h2 := inTurn_get ops.toList 0 i ops[i] ht (by simp [hi2]) e he' hb
              exact ih e.on (by omega) (by omega)
          rw [hr] at hm
          cases hm
    exact hf v w hB (fun i hi => hA i (all (i + 1) i (Nat.lt_succ_self _) hi))
  intro fuel
  induction fuel with
  | zero =>
    intro listed v w hs hc hB hA
    have hr : Region.ready .any ops listed = [] := by
      cases h : Region.ready .any ops listed with
      | nil => rfl
      | cons i r =>
        exfalso
        have hm : i ∈ Region.ready .any ops listed := by rw [h]; exact List.mem_cons_self ..
        have h1 := (mem_ready.1 hm).1
        have h2 : i < listed.size := by
          rcases Nat.lt_or_ge i listed.size with h' | h'
          · exact h'
          · simp [Array.getElem?_eq_none h'] at h1
        have h3 : listed.toList.countP (fun b => !b) = 0 := by omega
        rw [List.countP_eq_zero] at h3
        have h4 := h3 listed[i] (by simp)
        simp [h2] at h1
        simp [h1] at h4
    exact ⟨hr, done listed v w hs hB hA hr⟩
  | succ fuel ih =>
    intro listed v w hs hc hB hA
    refine ⟨fun hr => done listed v w hs hB hA hr, fun i hi => ?_⟩
    obtain ⟨h1, o, ho, hall⟩ := mem_ready.1 hi
    have h2 : i < listed.size := by
      rcases Nat.lt_or_ge i listed.size with h' | h'
      · exact h'
      · simp [Array.getElem?_eq_none h'] at h1
    have ho' : ops.toList[i]? = some o := by simpa using ho
    have hE := eachOps_get R B A ops.toList 0 i o he ho'
    rw [Nat.zero_add] at hE
    refine wpOp_step ho (fun K' hK => ?_)
    refine hE v w hB (allOf_mem ?_) K' ?_
    · intro j hj
      simp only [predsOf, List.mem_map, List.mem_filter] at hj
      obtain ⟨e, ⟨he1, he2⟩, rfl⟩ := hj
      exact hA _ (hall e (by simpa using he1) he2)
    · intro u w' hR hB' hA'
      apply hK
      rw [putAll_put ops.toList 0 i o u v a hd ho', Nat.zero_add]
      refine ih _ _ w' (by simpa using hs) ?_ hB' ?_
      · have h5 : listed[i] = false := by simpa [h2] using h1
        have : (listed.setIfInBounds i true).toList = listed.toList.set i true := by simp
        rw [this, List.countP_set (by simpa using h2)]
        have h6 : 0 < listed.toList.countP (fun b => !b) := List.countP_pos_iff.2 ⟨false, by rw [← h5]; simp, rfl⟩
        simp only [Array.getElem_toList, h5, Bool.not_false, Bool.not_true, if_true]
        simp only [Bool.false_eq_true, if_false]
        omega
      · intro k hk
        by_cases hki : k = i
        · subst hki; simpa using hA'
        · simp only [hki, if_false]
          refine hst _ _ _ _ hR (hA k ?_)
          have : (listed.setIfInBounds i true).getD k false = listed.getD k false := by
            simp [Ne.symm hki]
          rwa [this] at hk
/-- A region that draws its order, one obligation an operation: R is what an operation may do to the world, B what holds throughout, A i what number i leaves (kept by R). -/
theorem wp_region_each {id : Nat} {a : Act} {w : World} (hm : P.follows .mixedOrders = true) (hd : dstsApart ops.toList = true) (ht : inTurn 0 ops.toList = true) (hst : ∀ k v w w', R w w' → A k v w → A k v w') (hB : B w.drew)
    (he : EachOps P ops Q R B A a 0 ops.toList) (hf : ∀ v w, B w → (∀ i, i < ops.size → A i (v i) w) → Q .normal (putAll v 0 ops.toList a) w) : (Code.region id ops true).wp P Q a w := by
  have key := each_any R B A hd ht hst he hf ops.size (Array.replicate ops.size false) (fun i => match ops.toList[i]? with | some o => (match o.dst with | some t => a.tmps.getD t undef | none => undef) | none => undef) w.drew (by simp) (by rw [Array.toList_replicate]; exact Nat.le_trans List.countP_le_length (by simp)) hB (by intro i hi; by_cases h : i < ops.size <;> simp [h] at hi)
  rw [putAll_self a ops.toList 0 _ (by intro i o ho; simp only [Nat.zero_add, ho])] at key
  exact wp_region_held (S := fun _ => True) hm (held_of_any key)
where
  held_of_any : ∀ {fuel : Nat} {listed : Array Bool} {a : Act} {w : World}, wpAny P .any ops Q fuel listed a w → wpAnyH P .any ops Q (fun _ => True) fuel listed a w
  | 0, _, _, _, h => h
  | fuel + 1, _, _, _, h => ⟨h.1, fun i hi => wpOp_mono (fun a' w' h' => ⟨trivial, held_of_any h'⟩) (h.2 i hi)⟩
/-- Every operation but the last one has one that waits for it. -/
def covered (ops : Array Oper) : Bool := (List.range (ops.size - 1)).all (fun j => ops.toList.any (fun o => (predsOf o).contains j))
theorem mem_predsOf {o : Oper} {j : Nat} : j ∈ predsOf o ↔ ∃ e ∈ o.after, Region.binds .any e = true ∧ e.on = j := by
  simp only [predsOf, List.mem_map, List.mem_filter]
  constructor
  · rintro ⟨e, ⟨h1, h2⟩, h3⟩; exact ⟨e, by simpa using h1, h2, h3⟩
  · rintro ⟨e, h1, h2, h3⟩; exact ⟨e, ⟨by simpa using h1, h2⟩, h3⟩
theorem last_any {a : Act} (l : List Oper) (ol : Oper) (hops : ops.toList = l ++ [ol]) (hd : dstsApart ops.toList = true) (ht : inTurn 0 ops.toList = true) (hcv : covered ops = true) (hst : ∀ k v w w', R w w' → A k v w → A k v w')
    (he : EachOps P ops Q R B A a 0 l) (hl : ∀ v w, B w → (∀ i, i < l.length → A i (v i) w) → ∀ K : Act → World → Prop, (∀ a' w', Q .normal a' w' → K a' w') →
      if Region.wanted ol (yielded ops (putAll v 0 ops.toList a).tmps) = true then Oper.wp P ol (putAll v 0 ops.toList a) w K Q else K ((putAll v 0 ops.toList a).put ol.dst undef) w) :
    ∀ (fuel : Nat) (listed : Array Bool) (v : Nat → Value) (w : World), listed.size = ops.size → listed.toList.countP (fun b => !b) ≤ fuel → listed.getD l.length true = false →
      (∀ (k : Nat) (o : Oper), ops[k]? = some o → listed.getD k false = true → ∀ e ∈ o.after, Region.binds .any e = true → listed.getD e.on false = true) → B w → (∀ i, listed.getD i false = true → A i (v i) w) →
      wpAny P .any ops Q fuel listed (putAll v 0 ops.toList a) w := by
  have hsz : ops.size = l.length + 1 := by have := congrArg List.length hops; simpa using this
  have pos : ∀ (listed : Array Bool), listed.size = ops.size → listed.getD l.length true = false → ∃ i, i ∈ Region.ready .any ops listed := by
    intro listed hs h0
    -- the least that has not come up
    have go : ∀ n i, i ≤ n → i < ops.size → listed.getD i true = false → ∃ i, i ∈ Region.ready .any ops listed := by
      intro n
      induction n with
      | zero =>
        intro i hi hi2 hu
        have : i = 0 := by omega
        subst this
        refine ⟨0, mem_ready.2 ⟨hu, ops[0], by simp [hi2], ?_⟩⟩
        intro e he' hb
        have := inTurn_get ops.toList 0 0 ops[0] ht (by simp [hi2]) e he' hb
        omega
      | succ n ih =>
        intro i hi hi2 hu
        by_cases hall : ∀ e ∈ ops[i].after, Region.binds .any e = true → listed.getD e.on false = true
        · exact ⟨i, mem_ready.2 ⟨hu, ops[i], by simp [hi2], hall⟩⟩
        · have : ∃ e, e ∈ ops[i].after ∧ Region.binds .any e = true ∧ ¬ listed.getD e.on false = true := by
            refine Classical.byContradiction (fun hno => hall (fun e h1 h2 => Classical.byContradiction (fun h3 => hno ⟨e, h1, h2, h3⟩)))
          obtain ⟨e, h1, h2, h3⟩ := this
          have h4 := inTurn_get ops.toList 0 i ops[i] ht (by simp [hi2]) e h1 h2
          refine ih e.on (by omega) (by omega) ?_
          have h5 : e.on < listed.size := by omega
          simp [h5] at h3 ⊢
          exact h3
    exact go l.length l.length (Nat.le_refl _) (by omega) h0
  intro fuel
  induction fuel with
  | zero =>
    intro listed v w hs hc h0 hdc hB hA
    exfalso
    obtain ⟨i, hi⟩ := pos listed hs h0
    have h3 : listed.toList.countP (fun b => !b) = 0 := by omega
    rw [List.countP_eq_zero] at h3
    have h2 : l.length < listed.size := by omega
    have h4 := h3 listed[l.length] (by simp)
    simp [h2] at h0
    simp [h0] at h4
  | succ fuel ih =>
    intro listed v w hs hc h0 hdc hB hA
    refine ⟨fun hr => ?_, fun i hi => ?_⟩
    · exfalso
      obtain ⟨i, hi⟩ := pos listed hs h0
      rw [hr] at hi
      cases hi
    obtain ⟨h1, o, ho, hall⟩ := mem_ready.1 hi
    have h2 : i < listed.size := by
      rcases Nat.lt_or_ge i listed.size with h' | h'
      · exact h'
      · simp [Array.getElem?_eq_none h'] at h1
    have ho' : ops.toList[i]? = some o := by simpa using ho
    by_cases hil : i = l.length
    · -- the last one: all others have come up
      subst hil
      have hol : o = ol := by rw [hops] at ho'; simpa using ho'.symm
      subst hol
      have allL : ∀ n j, l.length - j ≤ n → j < l.length → listed.getD j false = true := by
        intro n
        induction n with
        | zero => intro j hj hj2; omega
        | succ n ihn =>
          intro j hj hj2
          have hcj := List.all_eq_true.1 hcv j (List.mem_range.2 (by omega))
          rw [List.any_eq_true] at hcj
          obtain ⟨o', ho2, hp⟩ := hcj
          obtain ⟨s, hs1, hs2⟩ := List.getElem_of_mem ho2
          have hp' := mem_predsOf.1 (by simpa using hp)
          obtain ⟨e, he1, he2, he3⟩ := hp'
          have hso : ops.toList[s]? = some o' := by rw [List.getElem?_eq_getElem hs1, hs2]
          have hlt := inTurn_get ops.toList 0 s o' ht hso e he1 he2
          have hs3 : s < ops.size := by simpa using hs1
          by_cases hsl : s = l.length
          · subst hsl
            have hoo : o' = o := by rw [hso] at ho'; exact Option.some.inj ho'
            subst hoo
            rw [← he3]
            exact hall e he1 he2
          · have := ihn s (by omega) (by omega)
            rw [← he3]
            exact hdc s o' (by simpa using hso) this e he1 he2
      refine wpOp_step ho (fun K' hK => ?_)
      refine hl v w hB (fun j hj => hA j (allL _ j (Nat.le_refl _) hj)) K' ?_
      intro a' w' hq
      apply hK
      have hr : Region.ready .any ops (listed.setIfInBounds l.length true) = [] := by
        cases h : Region.ready .any ops (listed.setIfInBounds l.length true) with
        | nil => rfl
        | cons j r =>
          exfalso
          have hm : j ∈ Region.ready .any ops (listed.setIfInBounds l.length true) := by rw [h]; exact List.mem_cons_self ..
          obtain ⟨g1, oj, g2, _⟩ := mem_ready.1 hm
          have g3 : j < ops.size := by
            rcases Nat.lt_or_ge j ops.size with h' | h'
            · exact h'
            · simp [Array.getElem?_eq_none h'] at g2
          by_cases hjl : j = l.length
          · subst hjl; simp [h2] at g1
          · have g4 := allL _ j (Nat.le_refl _) (by omega)
            have g5 : j < listed.size := by omega
            simp [Ne.symm hjl, g5] at g1 g4
            rw [g1] at g4; cases g4
      cases fuel with
      | zero => exact ⟨hr, hq⟩
      | succ f => exact ⟨fun _ => hq, by rw [hr]; intro j hj; cases hj⟩
    · have hi3 : i < l.length := by omega
      have hol : l[i]? = some o := by rw [hops, List.getElem?_append_left hi3] at ho'; exact ho'
      have hE := eachOps_get R B A l 0 i o he hol
      rw [Nat.zero_add] at hE
      refine wpOp_step ho (fun K' hK => ?_)
      refine hE v w hB (allOf_mem ?_) K' ?_
      · intro j hj
        obtain ⟨e, he1, he2, rfl⟩ := mem_predsOf.1 hj
        exact hA _ (hall e he1 he2)
      · intro u w' hR hB' hA'
        apply hK
        rw [putAll_put ops.toList 0 i o u v a hd ho', Nat.zero_add]
        have hget : ∀ k, k ≠ i → (listed.setIfInBounds i true).getD k false = listed.getD k false := by
          intro k hki
          simp [Ne.symm hki]
        refine ih _ _ w' (by simpa using hs) ?_ ?_ ?_ hB' ?_
        · have h5 : listed[i] = false := by simpa [h2] using h1
          have : (listed.setIfInBounds i true).toList = listed.toList.set i true := by simp
          rw [this, List.countP_set (by simpa using h2)]
          have h6 : 0 < listed.toList.countP (fun b => !b) := List.countP_pos_iff.2 ⟨false, by rw [← h5]; simp, rfl⟩
          simp only [Array.getElem_toList, h5, Bool.not_false, Bool.not_true, if_true]
          simp only [Bool.false_eq_true, if_false]
          omega
        · rw [← h0]; simp [hil]
        · intro k ok hk hlk e he1 he2
          by_cases hek : e.on = i
          · rw [hek]; simp [h2]
          · rw [hget _ hek]
            by_cases hki : k = i
            · subst hki
              have : ok = o := by rw [hk] at ho; exact Option.some.inj ho
              subst this
              exact hall e he1 he2
            · rw [hget _ hki] at hlk
              exact hdc k ok hk hlk e he1 he2
        · intro k hk
          by_cases hki : k = i
          · subst hki; simpa using hA'
          · simp only [hki, if_false]
            rw [hget _ hki] at hk
            exact hst _ _ _ _ hR (hA k hk)
/-- A region that draws its order and ends in one operation that waits for all others. -/
theorem wp_region_last {id : Nat} {a : Act} {w : World} (l : List Oper) (ol : Oper) (hops : ops.toList = l ++ [ol]) (hm : P.follows .mixedOrders = true) (hd : dstsApart ops.toList = true) (ht : inTurn 0 ops.toList = true) (hcv : covered ops = true) (hst : ∀ k v w w', R w w' → A k v w → A k v w') (hB : B w.drew)
    (he : EachOps P ops Q R B A a 0 l) (hl : ∀ v w, B w → (∀ i, i < l.length → A i (v i) w) → ∀ K : Act → World → Prop, (∀ a' w', Q .normal a' w' → K a' w') →
      if Region.wanted ol (yielded ops (putAll v 0 ops.toList a).tmps) = true then Oper.wp P ol (putAll v 0 ops.toList a) w K Q else K ((putAll v 0 ops.toList a).put ol.dst undef) w) : (Code.region id ops true).wp P Q a w := by
  have hsz : ops.size = l.length + 1 := by have := congrArg List.length hops; simpa using this
  have key := last_any R B A l ol hops hd ht hcv hst he hl ops.size (Array.replicate ops.size false) (fun i => match ops.toList[i]? with | some o => (match o.dst with | some t => a.tmps.getD t undef | none => undef) | none => undef) w.drew (by simp) (by rw [Array.toList_replicate]; exact Nat.le_trans List.countP_le_length (by simp)) (by simp [hsz]) (by intro k o _ hk; by_cases h : k < ops.size <;> simp [h] at hk) hB (by intro i hi; by_cases h : i < ops.size <;> simp [h] at hi)
  rw [putAll_self a ops.toList 0 _ (by intro i o ho; simp only [Nat.zero_add, ho])] at key
  exact wp_region_held (S := fun _ => True) hm (wp_region_each.held_of_any key)
/-- What is asked of each operation but the last one. -/
def EachBut (P : Program) (ops : Array Oper) (Q : Exit → Act → World → Prop) (R : World → World → Prop) (B : World → Prop) (A : Nat → Value → World → Prop) (a : Act) : Nat → List Oper → Prop
  | _, [] => True
  | _, [_] => True
  | i, o :: o' :: r => EachOp P ops Q R B A a i o ∧ EachBut P ops Q R B A a (i + 1) (o' :: r)
theorem eachBut_ops {a : Act} : ∀ (l : List Oper) (ol : Oper) (k : Nat), EachBut P ops Q R B A a k (l ++ [ol]) → EachOps P ops Q R B A a k l
  | [], _, _, _ => trivial
  | [o], _, _, h => ⟨h.1, trivial⟩
  | _ :: o' :: r, ol, k, h => ⟨h.1, eachBut_ops (o' :: r) ol (k + 1) h.2⟩
theorem EachBut.one {a : Act} {i : Nat} {o o' : Oper} {r : List Oper} (h : ∀ (v : Nat → Value) (w : World), B w → AllOf A v w (predsOf o) → ∀ K : Act → World → Prop, Shut (∀ u w', R w w' → B w' → A i u w' → K ((putAll v 0 ops.toList a).put o.dst u) w') →
    if Region.wanted o (yielded ops (putAll v 0 ops.toList a).tmps) = true then Oper.wp P o (putAll v 0 ops.toList a) w K Q else K ((putAll v 0 ops.toList a).put o.dst undef) w) (hr : EachBut P ops Q R B A a (i + 1) (o' :: r)) : EachBut P ops Q R B A a i (o :: o' :: r) :=
  ⟨fun v w hB hp K hK => h v w hB hp K hK, hr⟩
/-- A region that draws its order and ends in one operation that waits for all others. -/
theorem wp_region_last2 {id : Nat} {a : Act} {w : World} (ol : Oper) (hol : ops.toList.getLast? = some ol) (hm : P.follows .mixedOrders = true) (hd : dstsApart ops.toList = true) (ht : inTurn 0 ops.toList = true) (hcv : covered ops = true) (hst : ∀ k v w w', R w w' → A k v w → A k v w') (hB : B w.drew)
    (he : EachBut P ops Q R B A a 0 ops.toList) (hl : ∀ v w, B w → (∀ i, i < ops.size - 1 → A i (v i) w) → ∀ K : Act → World → Prop, Shut (∀ a' w', Q .normal a' w' → K a' w') →
      if Region.wanted ol (yielded ops (putAll v 0 ops.toList a).tmps) = true then Oper.wp P ol (putAll v 0 ops.toList a) w K Q else K ((putAll v 0 ops.toList a).put ol.dst undef) w) : (Code.region id ops true).wp P Q a w := by
  have hops : ops.toList = ops.toList.dropLast ++ [ol] := by
    have h0 := List.getLast?_eq_some_iff.1 hol
    obtain ⟨l, hl⟩ := h0
    rw [hl]; simp
  have hlen : ops.toList.dropLast.length = ops.size - 1 := by simp
  refine wp_region_last R B A ops.toList.dropLast ol hops hm hd ht hcv hst hB (eachBut_ops R B A _ ol 0 (hops ▸ he)) ?_
  intro v w hB' hA K hK
  exact hl v w hB' (fun j hj => hA j (by rw [hlen]; exact hj)) K hK
end
set_option maxRecDepth 100000
abbrev pkT : Nat := 24
/-- What is drawn of a packet. -/
def PkV (w : World) (B : Nat) (v : Value) (m0 m1 : Nat) : Prop := ∃ (x0 x1 : Int) (x2 x3 : Bool) (x4 x5 x6 x7 x8 : Int) (u0 u1 : Value) (z0 z1 : List Int), v = .agg #[.int .i64 x0, .int .i64 x1, .bool x2, .bool x3, .int .i64 x4, .int .i64 x5, .int .i64 x6, .int .i64 x7, .int .i64 x8, u0, u1] ∧ z0.length ≤ m0 ∧ z1.length ≤ m1 ∧ OwnB w B u0 z0 ∧ OwnB w B u1 z1 ∧ (∀ b, u0.ownBlock = some b → u1.ownBlock ≠ some b)
/-- What each operation of the literal leaves. -/
def A05 (g most N : Nat) : Nat → Value → World → Prop
  | 0, v, _ => v = .pointer (some ⟨g, 0, none⟩)
  | 1, v, _ => ∃ r : Int, v = .int .i64 r ∧ 0 ≤ r ∧ r < 2
  | 2, v, _ => v = .pointer (some ⟨g, 0, none⟩)
  | 3, v, _ => ∃ r : Int, v = .int .i64 r ∧ 0 ≤ r ∧ r < 256
  | 4, v, _ => ∃ r : Int, v = .int .i64 r
  | 5, v, _ => v = .pointer (some ⟨g, 0, none⟩)
  | 6, v, _ => ∃ r : Int, v = .int .i64 r ∧ 0 ≤ r ∧ r < 4
  | 7, v, _ => v = .pointer (some ⟨g, 0, none⟩)
  | 8, v, _ => ∃ r : Int, v = .int .i64 r ∧ 0 ≤ r ∧ r < 4
  | 9, v, _ => ∃ r : Bool, v = .bool r
  | 10, v, _ => v = .pointer (some ⟨g, 0, none⟩)
  | 11, v, _ => ∃ r : Int, v = .int .i64 r ∧ 0 ≤ r ∧ r < 64
  | 12, v, _ => ∃ r : Int, v = .int .i64 r
  | 13, v, W => ∃ b : Nat, v = .slice (some ⟨b, 0, none⟩) 4 4 ∧ HoldV W b #[.int .i64 1, .int .i64 6, .int .i64 17, .int .i64 99] 2 ∧ b ≠ g
  | 14, v, _ => v = .pointer (some ⟨g, 0, none⟩)
  | 15, v, _ => ∃ r : Int, v = .int .i64 r ∧ 0 ≤ r ∧ r < 4
  | 16, v, W => ∃ b k : Nat, v = .pointer (some ⟨b, k, none⟩) ∧ HoldV W b #[.int .i64 1, .int .i64 6, .int .i64 17, .int .i64 99] 2 ∧ b ≠ g ∧ k < 4
  | 17, v, _ => ∃ r : Int, v = .int .i64 r
  | 18, v, _ => v = .pointer (some ⟨g, 0, none⟩)
  | 19, v, _ => ∃ r : Int, v = .int .i64 r
  | 20, v, _ => v = .pointer (some ⟨g, 0, none⟩)
  | 21, v, _ => ∃ r : Int, v = .int .i64 r
  | 22, v, _ => v = .pointer (some ⟨g, 0, none⟩)
  | 23, v, _ => v = .pointer (some ⟨g, 0, none⟩)
  | 24, v, _ => v = .int .i64 (most : Int)
  | 25, v, _ => v = .int .i64 ((most : Int) + 1)
  | 26, v, _ => ∃ r : Nat, v = .int .i64 (r : Int) ∧ r ≤ most
  | 27, v, W => ∃ z : List Int, OwnB W N v z ∧ z.length ≤ most
  | 28, v, W => ∃ (x0 x1 : Int) (x2 : Bool) (x5 x6 x7 x8 : Int) (u : Value) (z : List Int), v = .agg #[.int .i64 x0, .int .i64 x1, .bool x2, .bool false, .int .i64 0, .int .i64 x5, .int .i64 x6, .int .i64 x7, .int .i64 x8, .slice none 0 0, u] ∧ OwnB W N u z ∧ z.length ≤ most
  | 29, v, W => ∃ b : Nat, v = .pointer (some ⟨b, 0, none⟩) ∧ HoldV W b #[.int .i64 0, .int .i64 0, .bool false, .bool false, .int .i64 0, .int .i64 0, .int .i64 0, .int .i64 0, .int .i64 0, .slice none 0 0, .slice none 0 0] pkT ∧ b ≠ g ∧ N < b
  | _, _, _ => True
theorem grown_refl (w : World) (r : Option Nat) : w.grownBy w r := ⟨rfl, rfl, rfl, Nat.le_refl _, fun _ _ _ => rfl⟩
theorem A05_kept {g most N : Nat} (hN : g < N) : ∀ (k : Nat) (v : Value) (W W' : World), W.grownBy W' (some g) → A05 g most N k v W → A05 g most N k v W' := by
  intro k v W W' hg h
  unfold A05 at h ⊢
  split at h
  all_goals first
    | exact h
    | (obtain ⟨b, e, hh, hb⟩ := h; exact ⟨b, e, hh.gr hg hb⟩)
    | (obtain ⟨b, e, hh, hb⟩ := h; exact ⟨b, e, hh.gr hg hb, hb⟩)
    | (obtain ⟨b, e, hh, hb, hc⟩ := h; exact ⟨b, e, hh.gr hg hb, hb, hc⟩)
    | (obtain ⟨b, k, e, hh, hb, hc⟩ := h; exact ⟨b, k, e, hh.gr hg hb, hb, hc⟩)
    | (obtain ⟨z, e, hz⟩ := h; exact ⟨z, e.gr hg hN, hz⟩)
    | (obtain ⟨x0, x1, x2, x5, x6, x7, x8, u, z, e, ho, hz⟩ := h; exact ⟨x0, x1, x2, x5, x6, x7, x8, u, z, e, ho.gr hg hN, hz⟩)
theorem OwnB.low {w : World} {B C : Nat} {v : Value} {zs : List Int} (h : OwnB w B v zs) (hC : C ≤ B) : OwnB w C v zs := by
  refine ⟨⟨h.1.1, ?_⟩, h.2⟩
  rcases h.1.2 with hn | ⟨r, cap, cur, hv, hr, rest⟩
  · exact .inl hn
  · exact .inr ⟨r, cap, cur, hv, by omega, rest⟩
theorem gset {W W' : World} {b : Nat} (h : W.grownBy W' (some b)) (i : Nat) (u : Value) : W.grownBy (W'.setCell ⟨b, i, none⟩ u) (some b) :=
  ⟨h.os, h.tape, h.output, by simpa using h.size, fun k hk hn => by rw [heap_setCell_other W' ⟨b, i, none⟩ k u (fun e => hn (by simp [e]))]; exact h.block k hk hn⟩
theorem set11 (W : World) (b : Nat) (u0 u1 u2 u3 u4 u5 u6 u7 u8 u9 u10 : Value) : W.grownBy (((((((((((W.setCell ⟨b, 0, none⟩ u0).setCell ⟨b, 1, none⟩ u1).setCell ⟨b, 2, none⟩ u2).setCell ⟨b, 3, none⟩ u3).setCell ⟨b, 4, none⟩ u4).setCell ⟨b, 5, none⟩ u5).setCell ⟨b, 6, none⟩ u6).setCell ⟨b, 7, none⟩ u7).setCell ⟨b, 8, none⟩ u8).setCell ⟨b, 9, none⟩ u9).setCell ⟨b, 10, none⟩ u10) (some b) :=
  gset (gset (gset (gset (gset (gset (gset (gset (gset (gset (gset (grown_refl W _) 0 u0) 1 u1) 2 u2) 3 u3) 4 u4) 5 u5) 6 u6) 7 u7) 8 u8) 9 u9) 10 u10
theorem HoldV.putc {w : World} {H T : Nat} {vs : Array Value} (h : HoldV w H vs T) (i : Nat) (y : Value) : HoldV (w.setCell ⟨H, i, none⟩ y) H (vs.setIfInBounds i y) T := heap_setCell_same w H i _ _ y h
theorem HoldV.set11 {W : World} {b T : Nat} {v0 v1 v2 v3 v4 v5 v6 v7 v8 v9 v10 : Value} (h : HoldV W b #[v0, v1, v2, v3, v4, v5, v6, v7, v8, v9, v10] T) (u0 u1 u2 u3 u4 u5 u6 u7 u8 u9 u10 : Value) : HoldV (((((((((((W.setCell ⟨b, 0, none⟩ u0).setCell ⟨b, 1, none⟩ u1).setCell ⟨b, 2, none⟩ u2).setCell ⟨b, 3, none⟩ u3).setCell ⟨b, 4, none⟩ u4).setCell ⟨b, 5, none⟩ u5).setCell ⟨b, 6, none⟩ u6).setCell ⟨b, 7, none⟩ u7).setCell ⟨b, 8, none⟩ u8).setCell ⟨b, 9, none⟩ u9).setCell ⟨b, 10, none⟩ u10) b #[u0, u1, u2, u3, u4, u5, u6, u7, u8, u9, u10] T := by
  have k := (((((((((((h.putc 0 u0).putc 1 u1).putc 2 u2).putc 3 u3).putc 4 u4).putc 5 u5).putc 6 u6).putc 7 u7).putc 8 u8).putc 9 u9).putc 10 u10)
  simp only [List.setIfInBounds_toArray, List.set_cons_zero, List.set_cons_succ] at k
  exact k
theorem DSr.put {w W W' : World} {g b cap : Nat} {a : Option Addr} {zs : List Int} (h : DSr w W g a cap zs) (harr : Arr w a zs) (hsrc : SrcA w g srT zs.length a cap) (hg : W.grownBy W' (some b)) (hb : w.heap.size ≤ b) : DSr w W' g a cap zs := by
  have hgw := h.2.2.2
  have hgr : w.grownBy W' (some g) := ⟨hg.os.trans h.2.2.1.os, hg.tape.trans h.2.2.1.tape, hg.output.trans h.2.2.1.output, Nat.le_trans h.2.2.1.size hg.size, fun k hk hn => (hg.block k (Nat.lt_of_lt_of_le hk h.2.2.1.size) (fun e => by have := Option.some.inj e; omega)).trans (h.2.2.1.block k hk hn)⟩
  exact ⟨harr.srcA hsrc hgr, h.2.1.same (hg.block g h.2.1.lt (fun e => by have := Option.some.inj e; omega)), hgr, hgw⟩
theorem OwnB.gr2 {w w' : World} {B g : Nat} {v : Value} {zs : List Int} (h : OwnB w B v zs) (hg : w.grownBy w' (some g)) (hB : ∀ k, v.ownBlock = some k → k ≠ g) : OwnB w' B v zs := by
  refine ⟨⟨h.1.1, ?_⟩, h.2⟩
  rcases h.1.2 with hn | ⟨r, cap, cur, hv, hr, hc, rest⟩
  · exact .inl hn
  · have hlt : r < w.heap.size := (Array.getElem?_eq_some_iff.1 hc).1
    have hne : r ≠ g := hB r (by rw [hv]; rfl)
    exact .inr ⟨r, cap, cur, hv, hr, (hg.block r hlt (fun e => hne (Option.some.inj e))).trans hc, rest⟩
theorem own_ne {w : World} {B b T : Nat} {v : Value} {zs : List Int} {vs : Array Value} (h : OwnB w B v zs) (hb : HoldV w b vs T) (hT : T ≠ 5) : ∀ k, v.ownBlock = some k → k ≠ b := by
  intro k hk he
  subst he
  rcases h.1.2 with ⟨hn, _⟩ | ⟨r, cap, cur, hv, hr, hc, rest⟩
  · rw [hn] at hk; cases hk
  · rw [hv] at hk
    have : r = k := by simpa [Value.ownBlock] using hk
    subst this
    rw [HoldV] at hb
    rw [hb] at hc
    simp only [Option.some.injEq, Obj.cells.injEq] at hc
    exact hT hc.2.1
set_option maxRecDepth 100000
set_option maxHeartbeats 8000000 in
theorem l05Packet_walk (g most : Nat) (zs : List Int) (w : World) (a : Option Addr) (cap : Nat) (harr : Arr w a zs) (hsrc : SrcA w g srT zs.length a cap) (hl : zs.length ≤ 2097152) (hm : most ≤ 100000) :
    Calls Tryz.prog 53 #[.pointer (some ⟨g, 0, none⟩), .int .i64 (most : Int)] w fun e w' => ∃ v, e = .returned v ∧ PkV w' w.heap.size v 40 most ∧ w.grownBy w' (some g) ∧ SrcA w' g srT zs.length a cap := by
  have HD0 := hide (((DSr.start harr hsrc).alloc (.cells #[.int .i64 0, .int .i64 0, .bool false, .bool false, .int .i64 0, .int .i64 0, .int .i64 0, .int .i64 0, .int .i64 0, .slice none 0 0, .slice none 0 0] pkT)).next ((Below.refl _ _).drew))
  have HX0 : Hid (HoldV (w.alloc (.cells #[.int .i64 0, .int .i64 0, .bool false, .bool false, .int .i64 0, .int .i64 0, .int .i64 0, .int .i64 0, .int .i64 0, .slice none 0 0, .slice none 0 0] pkT)).drew w.heap.size #[.int .i64 0, .int .i64 0, .bool false, .bool false, .int .i64 0, .int .i64 0, .int .i64 0, .int .i64 0, .int .i64 0, .slice none 0 0, .slice none 0 0] pkT) := hide (heap_alloc_new _ _)
  have hgw : g < w.heap.size := hsrc.lt
  have HA := hide harr
  have HS := hide hsrc
  clear harr hsrc
  go_enter Tryz.func53, Tryz.ntmps53
  go_upto_region 1 with fail
  generalize hN : w.heap.size = N at *
  refine wp_region_last2 (fun W W' => W.grownBy W' (some g)) (fun W => DSr w W g a cap zs ∧ HoldV W N #[.int .i64 0, .int .i64 0, .bool false, .bool false, .int .i64 0, .int .i64 0, .int .i64 0, .int .i64 0, .int .i64 0, .slice none 0 0, .slice none 0 0] pkT) (A05 g most N) _ rfl (by kernel_rfl) (by kernel_rfl) (by kernel_rfl) (by kernel_rfl) (A05_kept hgw) ⟨HD0.out, HX0.out⟩ ?_ ?_
  clear HD0 HX0
  refine EachBut.one _ _ _ ?_ ?_
  · intro v W hB hp KK hKK
    rw [if_pos (by rfl)]
    have hp1 : AllOf (A05 g most N) v W [] := hp
    clear hp
    simp only [putAll, Act.put, List.setIfInBounds_toArray, List.set_cons_zero, List.set_cons_succ, Nat.reduceAdd] at hKK ⊢
    go_simp
    refine hKK _ _ (grown_refl _ _) hB ?_
    rfl
  refine EachBut.one _ _ _ ?_ ?_
  · intro v W hB hp KK hKK
    rw [if_pos (by rfl)]
    have hp1 : AllOf (A05 g most N) v W [0] := hp
    clear hp
    simp only [putAll, Act.put, List.setIfInBounds_toArray, List.set_cons_zero, List.set_cons_succ, Nat.reduceAdd] at hKK ⊢
    obtain ⟨p0, _⟩ := hp1
    have e0 : v 0 = .pointer (some ⟨g, 0, none⟩) := p0
    have HB := hide hB
    clear hB
    simp only [e0] at hKK ⊢
    go_simp
    refine (l01Next_walk g 2 zs _ a cap HB.out.1.1 HB.out.1.2.1 (by omega) (by omega) hl).mono ?_
    rintro e w1 ⟨r, rfl, r0, r1, hg1, hs1⟩
    go_simp
    refine hKK _ _ hg1 ⟨HB.out.1.step hg1 hs1, HB.out.2.gr hg1 (by omega)⟩ ?_
    exact ⟨r, rfl, r0, r1⟩
  refine EachBut.one _ _ _ ?_ ?_
  · intro v W hB hp KK hKK
    rw [if_pos (by rfl)]
    have hp1 : AllOf (A05 g most N) v W [] := hp
    clear hp
    simp only [putAll, Act.put, List.setIfInBounds_toArray, List.set_cons_zero, List.set_cons_succ, Nat.reduceAdd] at hKK ⊢
    go_simp
    refine hKK _ _ (grown_refl _ _) hB ?_
    rfl
  refine EachBut.one _ _ _ ?_ ?_
  · intro v W hB hp KK hKK
    rw [if_pos (by rfl)]
    have hp1 : AllOf (A05 g most N) v W [2, 1] := hp
    clear hp
    simp only [putAll, Act.put, List.setIfInBounds_toArray, List.set_cons_zero, List.set_cons_succ, Nat.reduceAdd] at hKK ⊢
    obtain ⟨p2, p1, _⟩ := hp1
    have e2 : v 2 = .pointer (some ⟨g, 0, none⟩) := p2
    obtain ⟨r1, e1, l1⟩ := p1
    have HB := hide hB
    clear hB
    simp only [e2, e1] at hKK ⊢
    go_simp
    refine (l01Next_walk g 256 zs _ a cap HB.out.1.1 HB.out.1.2.1 (by omega) (by omega) hl).mono ?_
    rintro e w1 ⟨r, rfl, r0, r1, hg1, hs1⟩
    go_simp
    refine hKK _ _ hg1 ⟨HB.out.1.step hg1 hs1, HB.out.2.gr hg1 (by omega)⟩ ?_
    exact ⟨r, rfl, r0, r1⟩
  refine EachBut.one _ _ _ ?_ ?_
  · intro v W hB hp KK hKK
    rw [if_pos (by rfl)]
    have hp1 : AllOf (A05 g most N) v W [1, 3] := hp
    clear hp
    simp only [putAll, Act.put, List.setIfInBounds_toArray, List.set_cons_zero, List.set_cons_succ, Nat.reduceAdd] at hKK ⊢
    obtain ⟨p1, p3, _⟩ := hp1
    obtain ⟨r1, e1, l1⟩ := p1
    obtain ⟨r3, e3, l3⟩ := p3
    simp only [e1, e3] at hKK ⊢
    go_simp
    refine hKK _ _ (grown_refl _ _) hB ?_
    exact ⟨_, rfl⟩
  refine EachBut.one _ _ _ ?_ ?_
  · intro v W hB hp KK hKK
    rw [if_pos (by rfl)]
    have hp1 : AllOf (A05 g most N) v W [] := hp
    clear hp
    simp only [putAll, Act.put, List.setIfInBounds_toArray, List.set_cons_zero, List.set_cons_succ, Nat.reduceAdd] at hKK ⊢
    go_simp
    refine hKK _ _ (grown_refl _ _) hB ?_
    rfl
  refine EachBut.one _ _ _ ?_ ?_
  · intro v W hB hp KK hKK
    rw [if_pos (by rfl)]
    have hp1 : AllOf (A05 g most N) v W [5, 3] := hp
    clear hp
    simp only [putAll, Act.put, List.setIfInBounds_toArray, List.set_cons_zero, List.set_cons_succ, Nat.reduceAdd] at hKK ⊢
    obtain ⟨p5, p3, _⟩ := hp1
    have e5 : v 5 = .pointer (some ⟨g, 0, none⟩) := p5
    obtain ⟨r3, e3, l3⟩ := p3
    have HB := hide hB
    clear hB
    simp only [e5, e3] at hKK ⊢
    go_simp
    refine (l01Next_walk g 4 zs _ a cap HB.out.1.1 HB.out.1.2.1 (by omega) (by omega) hl).mono ?_
    rintro e w1 ⟨r, rfl, r0, r1, hg1, hs1⟩
    go_simp
    refine hKK _ _ hg1 ⟨HB.out.1.step hg1 hs1, HB.out.2.gr hg1 (by omega)⟩ ?_
    exact ⟨r, rfl, r0, r1⟩
  refine EachBut.one _ _ _ ?_ ?_
  · intro v W hB hp KK hKK
    rw [if_pos (by rfl)]
    have hp1 : AllOf (A05 g most N) v W [] := hp
    clear hp
    simp only [putAll, Act.put, List.setIfInBounds_toArray, List.set_cons_zero, List.set_cons_succ, Nat.reduceAdd] at hKK ⊢
    go_simp
    refine hKK _ _ (grown_refl _ _) hB ?_
    rfl
  refine EachBut.one _ _ _ ?_ ?_
  · intro v W hB hp KK hKK
    rw [if_pos (by rfl)]
    have hp1 : AllOf (A05 g most N) v W [7, 6] := hp
    clear hp
    simp only [putAll, Act.put, List.setIfInBounds_toArray, List.set_cons_zero, List.set_cons_succ, Nat.reduceAdd] at hKK ⊢
    obtain ⟨p7, p6, _⟩ := hp1
    have e7 : v 7 = .pointer (some ⟨g, 0, none⟩) := p7
    obtain ⟨r6, e6, l6⟩ := p6
    have HB := hide hB
    clear hB
    simp only [e7, e6] at hKK ⊢
    go_simp
    refine (l01Next_walk g 4 zs _ a cap HB.out.1.1 HB.out.1.2.1 (by omega) (by omega) hl).mono ?_
    rintro e w1 ⟨r, rfl, r0, r1, hg1, hs1⟩
    go_simp
    refine hKK _ _ hg1 ⟨HB.out.1.step hg1 hs1, HB.out.2.gr hg1 (by omega)⟩ ?_
    exact ⟨r, rfl, r0, r1⟩
  refine EachBut.one _ _ _ ?_ ?_
  · intro v W hB hp KK hKK
    rw [if_pos (by rfl)]
    have hp1 : AllOf (A05 g most N) v W [8] := hp
    clear hp
    simp only [putAll, Act.put, List.setIfInBounds_toArray, List.set_cons_zero, List.set_cons_succ, Nat.reduceAdd] at hKK ⊢
    obtain ⟨p8, _⟩ := hp1
    obtain ⟨r8, e8, l8⟩ := p8
    simp only [e8] at hKK ⊢
    go_simp
    refine hKK _ _ (grown_refl _ _) hB ?_
    exact ⟨_, rfl⟩
  refine EachBut.one _ _ _ ?_ ?_
  · intro v W hB hp KK hKK
    rw [if_pos (by rfl)]
    have hp1 : AllOf (A05 g most N) v W [] := hp
    clear hp
    simp only [putAll, Act.put, List.setIfInBounds_toArray, List.set_cons_zero, List.set_cons_succ, Nat.reduceAdd] at hKK ⊢
    go_simp
    refine hKK _ _ (grown_refl _ _) hB ?_
    rfl
  refine EachBut.one _ _ _ ?_ ?_
  · intro v W hB hp KK hKK
    rw [if_pos (by rfl)]
    have hp1 : AllOf (A05 g most N) v W [10, 8] := hp
    clear hp
    simp only [putAll, Act.put, List.setIfInBounds_toArray, List.set_cons_zero, List.set_cons_succ, Nat.reduceAdd] at hKK ⊢
    obtain ⟨p10, p8, _⟩ := hp1
    have e10 : v 10 = .pointer (some ⟨g, 0, none⟩) := p10
    obtain ⟨r8, e8, l8⟩ := p8
    have HB := hide hB
    clear hB
    simp only [e10, e8] at hKK ⊢
    go_simp
    refine (l01Next_walk g 64 zs _ a cap HB.out.1.1 HB.out.1.2.1 (by omega) (by omega) hl).mono ?_
    rintro e w1 ⟨r, rfl, r0, r1, hg1, hs1⟩
    go_simp
    refine hKK _ _ hg1 ⟨HB.out.1.step hg1 hs1, HB.out.2.gr hg1 (by omega)⟩ ?_
    exact ⟨r, rfl, r0, r1⟩
  refine EachBut.one _ _ _ ?_ ?_
  · intro v W hB hp KK hKK
    rw [if_pos (by rfl)]
    have hp1 : AllOf (A05 g most N) v W [11] := hp
    clear hp
    simp only [putAll, Act.put, List.setIfInBounds_toArray, List.set_cons_zero, List.set_cons_succ, Nat.reduceAdd] at hKK ⊢
    obtain ⟨p11, _⟩ := hp1
    obtain ⟨r11, e11, l11⟩ := p11
    simp only [e11] at hKK ⊢
    go_simp
    refine hKK _ _ (grown_refl _ _) hB ?_
    exact ⟨_, rfl⟩
  refine EachBut.one _ _ _ ?_ ?_
  · intro v W hB hp KK hKK
    rw [if_pos (by rfl)]
    have hp1 : AllOf (A05 g most N) v W [] := hp
    clear hp
    simp only [putAll, Act.put, List.setIfInBounds_toArray, List.set_cons_zero, List.set_cons_succ, Nat.reduceAdd] at hKK ⊢
    have hlt := hB.1.2.1.lt
    go_simp
    refine hKK _ _ (World.grownBy_alloc W _ _) ⟨hB.1.alloc _, hB.2.next ((Below.refl _ _).alloc (Nat.le_refl _) _)⟩ ?_
    exact ⟨W.heap.size, rfl, heap_alloc_new _ _, by omega⟩
  refine EachBut.one _ _ _ ?_ ?_
  · intro v W hB hp KK hKK
    rw [if_pos (by rfl)]
    have hp1 : AllOf (A05 g most N) v W [] := hp
    clear hp
    simp only [putAll, Act.put, List.setIfInBounds_toArray, List.set_cons_zero, List.set_cons_succ, Nat.reduceAdd] at hKK ⊢
    go_simp
    refine hKK _ _ (grown_refl _ _) hB ?_
    rfl
  refine EachBut.one _ _ _ ?_ ?_
  · intro v W hB hp KK hKK
    rw [if_pos (by rfl)]
    have hp1 : AllOf (A05 g most N) v W [14, 11] := hp
    clear hp
    simp only [putAll, Act.put, List.setIfInBounds_toArray, List.set_cons_zero, List.set_cons_succ, Nat.reduceAdd] at hKK ⊢
    obtain ⟨p14, p11, _⟩ := hp1
    have e14 : v 14 = .pointer (some ⟨g, 0, none⟩) := p14
    obtain ⟨r11, e11, l11⟩ := p11
    have HB := hide hB
    clear hB
    simp only [e14, e11] at hKK ⊢
    go_simp
    refine (l01Next_walk g 4 zs _ a cap HB.out.1.1 HB.out.1.2.1 (by omega) (by omega) hl).mono ?_
    rintro e w1 ⟨r, rfl, r0, r1, hg1, hs1⟩
    go_simp
    refine hKK _ _ hg1 ⟨HB.out.1.step hg1 hs1, HB.out.2.gr hg1 (by omega)⟩ ?_
    exact ⟨r, rfl, r0, r1⟩
  refine EachBut.one _ _ _ ?_ ?_
  · intro v W hB hp KK hKK
    rw [if_pos (by rfl)]
    have hp1 : AllOf (A05 g most N) v W [13, 15] := hp
    clear hp
    simp only [putAll, Act.put, List.setIfInBounds_toArray, List.set_cons_zero, List.set_cons_succ, Nat.reduceAdd] at hKK ⊢
    obtain ⟨p13, p15, _⟩ := hp1
    obtain ⟨r15, e15, l15⟩ := p15
    obtain ⟨b, e13, hh, hne⟩ := p13
    obtain ⟨k, rfl⟩ := Int.eq_ofNat_of_zero_le l15.1
    have hk : k < 4 := by omega
    clear l15
    rcases (show k = 0 ∨ k = 1 ∨ k = 2 ∨ k = 3 by omega) with rfl | rfl | rfl | rfl
    all_goals
      simp only [e13, e15] at hKK ⊢
      clear e13 e15
      go_simp
      refine hKK _ _ (grown_refl _ _) hB ?_
      exact ⟨b, _, rfl, hh, hne, hk⟩
  refine EachBut.one _ _ _ ?_ ?_
  · intro v W hB hp KK hKK
    rw [if_pos (by rfl)]
    have hp1 : AllOf (A05 g most N) v W [16] := hp
    clear hp
    simp only [putAll, Act.put, List.setIfInBounds_toArray, List.set_cons_zero, List.set_cons_succ, Nat.reduceAdd] at hKK ⊢
    obtain ⟨p16, _⟩ := hp1
    obtain ⟨b, k, e16, hh, hne, hk⟩ := p16
    have c0 := hh.cell 0 _ rfl
    have c1 := hh.cell 1 _ rfl
    have c2 := hh.cell 2 _ rfl
    have c3 := hh.cell 3 _ rfl
    rcases (show k = 0 ∨ k = 1 ∨ k = 2 ∨ k = 3 by omega) with rfl | rfl | rfl | rfl
    all_goals
      simp only [e16] at hKK ⊢
      clear e16
      go_simp
      refine hKK _ _ (grown_refl _ _) hB ?_
      exact ⟨_, rfl⟩
  refine EachBut.one _ _ _ ?_ ?_
  · intro v W hB hp KK hKK
    rw [if_pos (by rfl)]
    have hp1 : AllOf (A05 g most N) v W [] := hp
    clear hp
    simp only [putAll, Act.put, List.setIfInBounds_toArray, List.set_cons_zero, List.set_cons_succ, Nat.reduceAdd] at hKK ⊢
    go_simp
    refine hKK _ _ (grown_refl _ _) hB ?_
    rfl
  refine EachBut.one _ _ _ ?_ ?_
  · intro v W hB hp KK hKK
    rw [if_pos (by rfl)]
    have hp1 : AllOf (A05 g most N) v W [18, 15] := hp
    clear hp
    simp only [putAll, Act.put, List.setIfInBounds_toArray, List.set_cons_zero, List.set_cons_succ, Nat.reduceAdd] at hKK ⊢
    obtain ⟨p18, p15, _⟩ := hp1
    have e18 : v 18 = .pointer (some ⟨g, 0, none⟩) := p18
    obtain ⟨r15, e15, l15⟩ := p15
    have HB := hide hB
    clear hB
    simp only [e18, e15] at hKK ⊢
    go_simp
    refine (l02Host_walk g zs _ a cap HB.out.1.1 HB.out.1.2.1 hl).mono ?_
    rintro e w1 ⟨r, rfl, r0, r1, hg1, hs1⟩
    go_simp
    refine hKK _ _ hg1 ⟨HB.out.1.step hg1 hs1, HB.out.2.gr hg1 (by omega)⟩ ?_
    exact ⟨r, rfl⟩
  refine EachBut.one _ _ _ ?_ ?_
  · intro v W hB hp KK hKK
    rw [if_pos (by rfl)]
    have hp1 : AllOf (A05 g most N) v W [] := hp
    clear hp
    simp only [putAll, Act.put, List.setIfInBounds_toArray, List.set_cons_zero, List.set_cons_succ, Nat.reduceAdd] at hKK ⊢
    go_simp
    refine hKK _ _ (grown_refl _ _) hB ?_
    rfl
  refine EachBut.one _ _ _ ?_ ?_
  · intro v W hB hp KK hKK
    rw [if_pos (by rfl)]
    have hp1 : AllOf (A05 g most N) v W [20, 19] := hp
    clear hp
    simp only [putAll, Act.put, List.setIfInBounds_toArray, List.set_cons_zero, List.set_cons_succ, Nat.reduceAdd] at hKK ⊢
    obtain ⟨p20, p19, _⟩ := hp1
    have e20 : v 20 = .pointer (some ⟨g, 0, none⟩) := p20
    obtain ⟨r19, e19⟩ := p19
    have HB := hide hB
    clear hB
    simp only [e20, e19] at hKK ⊢
    go_simp
    refine (l02Host_walk g zs _ a cap HB.out.1.1 HB.out.1.2.1 hl).mono ?_
    rintro e w1 ⟨r, rfl, r0, r1, hg1, hs1⟩
    go_simp
    refine hKK _ _ hg1 ⟨HB.out.1.step hg1 hs1, HB.out.2.gr hg1 (by omega)⟩ ?_
    exact ⟨r, rfl⟩
  refine EachBut.one _ _ _ ?_ ?_
  · intro v W hB hp KK hKK
    rw [if_pos (by rfl)]
    have hp1 : AllOf (A05 g most N) v W [] := hp
    clear hp
    simp only [putAll, Act.put, List.setIfInBounds_toArray, List.set_cons_zero, List.set_cons_succ, Nat.reduceAdd] at hKK ⊢
    go_simp
    refine hKK _ _ (grown_refl _ _) hB ?_
    rfl
  refine EachBut.one _ _ _ ?_ ?_
  · intro v W hB hp KK hKK
    rw [if_pos (by rfl)]
    have hp1 : AllOf (A05 g most N) v W [] := hp
    clear hp
    simp only [putAll, Act.put, List.setIfInBounds_toArray, List.set_cons_zero, List.set_cons_succ, Nat.reduceAdd] at hKK ⊢
    go_simp
    refine hKK _ _ (grown_refl _ _) hB ?_
    rfl
  refine EachBut.one _ _ _ ?_ ?_
  · intro v W hB hp KK hKK
    rw [if_pos (by rfl)]
    have hp1 : AllOf (A05 g most N) v W [] := hp
    clear hp
    simp only [putAll, Act.put, List.setIfInBounds_toArray, List.set_cons_zero, List.set_cons_succ, Nat.reduceAdd] at hKK ⊢
    go_simp
    refine hKK _ _ (grown_refl _ _) hB ?_
    rfl
  refine EachBut.one _ _ _ ?_ ?_
  · intro v W hB hp KK hKK
    rw [if_pos (by rfl)]
    have hp1 : AllOf (A05 g most N) v W [24] := hp
    clear hp
    simp only [putAll, Act.put, List.setIfInBounds_toArray, List.set_cons_zero, List.set_cons_succ, Nat.reduceAdd] at hKK ⊢
    obtain ⟨p24, _⟩ := hp1
    have e24 : v 24 = .int .i64 (most : Int) := p24
    simp only [e24] at hKK ⊢
    have hw : IntKind.i64.wrap ((most : Int) + 1) = (most : Int) + 1 := by rw [IntKind.wrap_i64]; omega
    go_simp
    refine hKK _ _ (grown_refl _ _) hB ?_
    exact rfl
  refine EachBut.one _ _ _ ?_ ?_
  · intro v W hB hp KK hKK
    rw [if_pos (by rfl)]
    have hp1 : AllOf (A05 g most N) v W [23, 25, 21] := hp
    clear hp
    simp only [putAll, Act.put, List.setIfInBounds_toArray, List.set_cons_zero, List.set_cons_succ, Nat.reduceAdd] at hKK ⊢
    obtain ⟨p23, p25, p21, _⟩ := hp1
    have e23 : v 23 = .pointer (some ⟨g, 0, none⟩) := p23
    have e25 : v 25 = .int .i64 ((most : Int) + 1) := p25
    obtain ⟨r21, e21⟩ := p21
    have HB := hide hB
    clear hB
    simp only [e23, e25, e21] at hKK ⊢
    go_simp
    refine (l01Next_walk g ((most : Int) + 1) zs _ a cap HB.out.1.1 HB.out.1.2.1 (by omega) (by omega) hl).mono ?_
    rintro e w1 ⟨r, rfl, r0, r1, hg1, hs1⟩
    go_simp
    refine hKK _ _ hg1 ⟨HB.out.1.step hg1 hs1, HB.out.2.gr hg1 (by omega)⟩ ?_
    exact ⟨r.toNat, by rw [Int.toNat_of_nonneg r0], by omega⟩
  refine EachBut.one _ _ _ ?_ ?_
  · intro v W hB hp KK hKK
    rw [if_pos (by rfl)]
    have hp1 : AllOf (A05 g most N) v W [22, 26, 26] := hp
    clear hp
    simp only [putAll, Act.put, List.setIfInBounds_toArray, List.set_cons_zero, List.set_cons_succ, Nat.reduceAdd] at hKK ⊢
    obtain ⟨p22, p26, _, _⟩ := hp1
    have e22 : v 22 = .pointer (some ⟨g, 0, none⟩) := p22
    obtain ⟨r26, e26, l26⟩ := p26
    have HB := hide hB
    clear hB
    simp only [e22, e26] at hKK ⊢
    go_simp
    refine (l01Bytes_walk g r26 zs _ a cap HB.out.1.1 HB.out.1.2.1 hl (by omega)).mono ?_
    rintro e w1 ⟨u, ys, rfl, hy, hO, hg1, hs1⟩
    go_simp
    refine hKK _ _ hg1 ⟨HB.out.1.step hg1 hs1, HB.out.2.gr hg1 (by omega)⟩ ?_
    exact ⟨ys, hO.low (by have := HB.out.2.lt; omega), by omega⟩
  refine EachBut.one _ _ _ ?_ ?_
  · intro v W hB hp KK hKK
    rw [if_pos (by rfl)]
    have hp1 : AllOf (A05 g most N) v W [4, 6, 9, 12, 17, 19, 21, 27] := hp
    clear hp
    simp only [putAll, Act.put, List.setIfInBounds_toArray, List.set_cons_zero, List.set_cons_succ, Nat.reduceAdd] at hKK ⊢
    obtain ⟨p4, p6, p9, p12, p17, p19, p21, p27, _⟩ := hp1
    obtain ⟨r4, e4⟩ := p4
    obtain ⟨r6, e6, l6⟩ := p6
    obtain ⟨r9, e9⟩ := p9
    obtain ⟨r12, e12⟩ := p12
    obtain ⟨r17, e17⟩ := p17
    obtain ⟨r19, e19⟩ := p19
    obtain ⟨r21, e21⟩ := p21
    obtain ⟨z, hO, hz⟩ := p27
    have HO := hide hO
    clear hO
    simp only [e4, e6, e9, e12, e17, e19, e21] at hKK ⊢
    generalize v 27 = u at *
    obtain ⟨ua, uc, hu, _⟩ := own_slice HO.out
    have HZ := hide hz
    clear hz
    generalize hzn : z.length = zn at *
    subst hu
    go_simp
    refine hKK _ _ (grown_refl _ _) hB ?_
    exact ⟨_, _, _, _, _, _, _, _, z, rfl, HO.out, by rw [hzn]; exact HZ.out⟩
  refine EachBut.one _ _ _ ?_ ?_
  · intro v W hB hp KK hKK
    rw [if_pos (by rfl)]
    have hp1 : AllOf (A05 g most N) v W [] := hp
    clear hp
    simp only [putAll, Act.put, List.setIfInBounds_toArray, List.set_cons_zero, List.set_cons_succ, Nat.reduceAdd] at hKK ⊢
    have hlt := hB.1.2.1.lt
    have hl2 := hB.2.lt
    go_simp
    refine hKK _ _ (World.grownBy_alloc W _ _) ⟨hB.1.alloc _, hB.2.next ((Below.refl _ _).alloc (Nat.le_refl _) _)⟩ ?_
    exact ⟨W.heap.size, rfl, heap_alloc_new _ _, by omega, by omega⟩
  · exact trivial
  intro v W hB hA KK hKK
  rw [if_pos (by rfl)]
  simp only [putAll, Act.put, List.setIfInBounds_toArray, List.set_cons_zero, List.set_cons_succ, Nat.reduceAdd]
  have p28 : A05 g most N 28 (v 28) W := hA 28 (by decide)
  have p29 : A05 g most N 29 (v 29) W := hA 29 (by decide)
  clear hA
  obtain ⟨x0, x1, x2, x5, x6, x7, x8, u, z, e28, hO, hz⟩ := p28
  obtain ⟨b, e29, hP, hbg, hbN⟩ := p29
  simp only [e28, e29]
  clear e28 e29
  obtain ⟨ua, uc, hu, _⟩ := own_slice hO
  have HZL : Hid (z.length ≤ most) := hide hz
  clear hz
  generalize hzn : z.length = zn at *
  subst hu
  generalize v 0 = y0; generalize v 1 = y1; generalize v 2 = y2; generalize v 3 = y3; generalize v 4 = y4; generalize v 5 = y5; generalize v 6 = y6; generalize v 7 = y7; generalize v 8 = y8; generalize v 9 = y9; generalize v 10 = y10; generalize v 11 = y11; generalize v 12 = y12; generalize v 13 = y13; generalize v 14 = y14; generalize v 15 = y15; generalize v 16 = y16; generalize v 17 = y17; generalize v 18 = y18; generalize v 19 = y19; generalize v 20 = y20; generalize v 21 = y21; generalize v 22 = y22; generalize v 23 = y23; generalize v 24 = y24; generalize v 25 = y25; generalize v 26 = y26; generalize v 27 = y27
  have hne : ∀ k, (Value.slice ua zn uc).ownBlock = some k → k ≠ b := own_ne hO hP (by decide)
  have hG : W.grownBy (((((((((((W.setCell ⟨b, 0, none⟩ (.int .i64 x0)).setCell ⟨b, 1, none⟩ (.int .i64 x1)).setCell ⟨b, 2, none⟩ (.bool x2)).setCell ⟨b, 3, none⟩ (.bool false)).setCell ⟨b, 4, none⟩ (.int .i64 0)).setCell ⟨b, 5, none⟩ (.int .i64 x5)).setCell ⟨b, 6, none⟩ (.int .i64 x6)).setCell ⟨b, 7, none⟩ (.int .i64 x7)).setCell ⟨b, 8, none⟩ (.int .i64 x8)).setCell ⟨b, 9, none⟩ (.slice none 0 0)).setCell ⟨b, 10, none⟩ (.slice ua zn uc)) (some b) := set11 W b _ _ _ _ _ _ _ _ _ _ _
  have HP1 : Hid (HoldV (((((((((((W.setCell ⟨b, 0, none⟩ (.int .i64 x0)).setCell ⟨b, 1, none⟩ (.int .i64 x1)).setCell ⟨b, 2, none⟩ (.bool x2)).setCell ⟨b, 3, none⟩ (.bool false)).setCell ⟨b, 4, none⟩ (.int .i64 0)).setCell ⟨b, 5, none⟩ (.int .i64 x5)).setCell ⟨b, 6, none⟩ (.int .i64 x6)).setCell ⟨b, 7, none⟩ (.int .i64 x7)).setCell ⟨b, 8, none⟩ (.int .i64 x8)).setCell ⟨b, 9, none⟩ (.slice none 0 0)).setCell ⟨b, 10, none⟩ (.slice ua zn uc)) b #[.int .i64 x0, .int .i64 x1, .bool x2, .bool false, .int .i64 0, .int .i64 x5, .int .i64 x6, .int .i64 x7, .int .i64 x8, .slice none 0 0, .slice ua zn uc] pkT) := hide (hP.set11 _ _ _ _ _ _ _ _ _ _ _)
  have HD1 := hide (hB.1.put HA.out HS.out hG (by omega))
  have HX1 := hide (hB.2.gr hG (by omega))
  have HO1 := hide (hO.gr2 hG hne)
  have c0 := hP.cell 0 _ rfl; have c1 := hP.cell 1 _ rfl; have c2 := hP.cell 2 _ rfl; have c3 := hP.cell 3 _ rfl; have c4 := hP.cell 4 _ rfl; have c5 := hP.cell 5 _ rfl; have c6 := hP.cell 6 _ rfl; have c7 := hP.cell 7 _ rfl; have c8 := hP.cell 8 _ rfl; have c9 := hP.cell 9 _ rfl; have c10 := hP.cell 10 _ rfl; have cf := hP.frozen
  clear hB hP hO hG
  go_simp
  refine hKK _ _ ?_
  clear hKK
  generalize (((((((((((W.setCell ⟨b, 0, none⟩ (.int .i64 x0)).setCell ⟨b, 1, none⟩ (.int .i64 x1)).setCell ⟨b, 2, none⟩ (.bool x2)).setCell ⟨b, 3, none⟩ (.bool false)).setCell ⟨b, 4, none⟩ (.int .i64 0)).setCell ⟨b, 5, none⟩ (.int .i64 x5)).setCell ⟨b, 6, none⟩ (.int .i64 x6)).setCell ⟨b, 7, none⟩ (.int .i64 x7)).setCell ⟨b, 8, none⟩ (.int .i64 x8)).setCell ⟨b, 9, none⟩ (.slice none 0 0)).setCell ⟨b, 10, none⟩ (.slice ua zn uc)) = W1 at *
  clear c0 c1 c2 c3 c4 c5 c6 c7 c8 c9 c10 cf
  have hgN : g < N := by omega
  go_wp2_with fail
  refine (l01Next_walk g 6 zs _ a cap HD1.out.1 HD1.out.2.1 (by omega) (by omega) hl).mono ?_
  rintro e w2 ⟨r, rfl, r0, r1, hg2, hs2⟩
  have HD2 := hide (HD1.out.step hg2 hs2)
  have HP2 := hide (HP1.out.gr hg2 hbg)
  have HX2 := hide (HX1.out.gr hg2 (by omega))
  have HO2 := hide (HO1.out.gr hg2 hgN)
  clear hg2 hs2 HD1 HP1 HX1 HO1
  by_cases hr : r = 0
  · subst hr
    go_wp2_with fail
    refine (l01Next_walk g 11 zs _ a cap HD2.out.1 HD2.out.2.1 (by omega) (by omega) hl).mono ?_
    rintro e w3 ⟨k, rfl, k0, k1, hg3, hs3⟩
    have HD3 := hide (HD2.out.step hg3 hs3)
    have HP3 := hide (HP2.out.gr hg3 hbg)
    have HX3 := hide (HX2.out.gr hg3 (by omega))
    have HO3 := hide (HO2.out.gr hg3 hgN)
    clear hg3 hs3 HD2 HP2 HX2 HO2
    obtain ⟨kn, rfl⟩ := Int.eq_ofNat_of_zero_le k0
    have CB := hide (l01Bytes_walk g (4 * kn) zs w3 a cap HD3.out.1 HD3.out.2.1 hl (by omega))
    rw [show ((4 * kn : Nat) : Int) = 4 * (kn : Int) by omega] at CB
    have hk4 : IntKind.i64.wrap (4 * (kn : Int)) = 4 * (kn : Int) := by rw [IntKind.wrap_i64]; omega
    go_wp2_with fail
    refine CB.out.mono ?_
    clear CB
    rintro e w4 ⟨q, ys, rfl, hy, hq, hg4, hs4⟩
    have HQ4 := hide (hq.low (show N ≤ w3.heap.size by have := HX3.out.lt; omega))
    have hnq : ∀ j, q.ownBlock = some j → j ≠ b := fun j hj => by have := (hq.1.lt j hj).1; have := HP3.out.lt; omega
    have hapq : ∀ j, q.ownBlock = some j → (Value.slice ua zn uc).ownBlock ≠ some j := fun j hj h2 => by have := (hq.1.lt j hj).1; have := (HO3.out.1.lt j h2).2; omega
    clear hq
    have HD4 := hide (HD3.out.step hg4 hs4)
    have HP4 := hide (HP3.out.gr hg4 hbg)
    have HX4 := hide (HX3.out.gr hg4 (by omega))
    have HO4 := hide (HO3.out.gr hg4 hgN)
    clear hg4 hs4 HD3 HP3 HX3 HO3
    obtain ⟨qa, qc, hqv, _⟩ := own_slice HQ4.out
    have HYL : Hid (ys.length ≤ 40) := hide (by omega)
    clear hy
    generalize hyn : ys.length = yn at *
    subst hqv
    have hG4 : w4.grownBy (w4.setCell ⟨b, 9, none⟩ (.slice qa yn qc)) (some b) := gset (grown_refl _ _) _ _
    have HP5 : Hid (HoldV (w4.setCell ⟨b, 9, none⟩ (.slice qa yn qc)) b #[.int .i64 x0, .int .i64 x1, .bool x2, .bool false, .int .i64 0, .int .i64 x5, .int .i64 x6, .int .i64 x7, .int .i64 x8, .slice qa yn qc, .slice ua zn uc] pkT) := hide (HP4.out.putc 9 _)
    have HD5 := hide (HD4.out.put HA.out HS.out hG4 (by omega))
    have HX5 := hide (HX4.out.gr hG4 (by omega))
    have HO5 := hide (HO4.out.gr2 hG4 hne)
    have HQ5 := hide (HQ4.out.gr2 hG4 hnq)
    have cc := HP4.out.cell 9 _ rfl; have cf := HP4.out.frozen 9
    clear hG4 HD4 HP4 HX4 HO4 HQ4
    go_wp2_with fail
    generalize w4.setCell ⟨b, 9, none⟩ (.slice qa yn qc) = w5 at *
    clear cc cf
    refine (l01Next_walk g 6 zs _ a cap HD5.out.1 HD5.out.2.1 (by omega) (by omega) hl).mono ?_
    rintro e w6 ⟨s, rfl, s0, s1, hg6, hs6⟩
    have HD6 := hide (HD5.out.step hg6 hs6)
    have HP6 := hide (HP5.out.gr hg6 hbg)
    have HX6 := hide (HX5.out.gr hg6 (by omega))
    have HO6 := hide (HO5.out.gr hg6 hgN)
    have HQ6 := hide (HQ5.out.gr hg6 hgN)
    clear hg6 hs6 HD5 HP5 HX5 HO5 HQ5
    by_cases hs0 : s = 0
    · subst hs0
      have hG6 : w6.grownBy (w6.setCell ⟨b, 3, none⟩ (.bool true)) (some b) := gset (grown_refl _ _) _ _
      have HP7 : Hid (HoldV (w6.setCell ⟨b, 3, none⟩ (.bool true)) b #[.int .i64 x0, .int .i64 x1, .bool x2, .bool true, .int .i64 0, .int .i64 x5, .int .i64 x6, .int .i64 x7, .int .i64 x8, .slice qa yn qc, .slice ua zn uc] pkT) := hide (HP6.out.putc 3 _)
      have HD7 := hide (HD6.out.put HA.out HS.out hG6 (by omega))
      have HX7 := hide (HX6.out.gr hG6 (by omega))
      have HO7 := hide (HO6.out.gr2 hG6 hne)
      have HQ7 := hide (HQ6.out.gr2 hG6 hnq)
      have cc := HP6.out.cell 3 _ rfl; have cf := HP6.out.frozen 3
      clear hG6 HD6 HP6 HX6 HO6 HQ6
      go_wp2_with fail
      generalize w6.setCell ⟨b, 3, none⟩ (.bool true) = w7 at *
      clear cc cf
      refine (l01Next_walk g 100 zs _ a cap HD7.out.1 HD7.out.2.1 (by omega) (by omega) hl).mono ?_
      rintro e w8 ⟨o, rfl, o0, o1, hg8, hs8⟩
      have HD8 := hide (HD7.out.step hg8 hs8)
      have HP8 := hide (HP7.out.gr hg8 hbg)
      have HX8 := hide (HX7.out.gr hg8 (by omega))
      have HO8 := hide (HO7.out.gr hg8 hgN)
      have HQ8 := hide (HQ7.out.gr hg8 hgN)
      clear hg8 hs8 HD7 HP7 HX7 HO7 HQ7
      have ho : IntKind.i64.wrap (8 * o) = 8 * o := by rw [IntKind.wrap_i64]; omega
      have hG8 : w8.grownBy (w8.setCell ⟨b, 4, none⟩ (.int .i64 (8 * o))) (some b) := gset (grown_refl _ _) _ _
      have HP9 : Hid (HoldV (w8.setCell ⟨b, 4, none⟩ (.int .i64 (8 * o))) b #[.int .i64 x0, .int .i64 x1, .bool x2, .bool true, .int .i64 (8 * o), .int .i64 x5, .int .i64 x6, .int .i64 x7, .int .i64 x8, .slice qa yn qc, .slice ua zn uc] pkT) := hide (HP8.out.putc 4 _)
      have HD9 := hide (HD8.out.put HA.out HS.out hG8 (by omega))
      have HX9 := hide (HX8.out.gr hG8 (by omega))
      have HO9 := hide (HO8.out.gr2 hG8 hne)
      have HQ9 := hide (HQ8.out.gr2 hG8 hnq)
      have cc := HP8.out.cell 4 _ rfl; have cf := HP8.out.frozen 4
      clear hG8 HD8 HP8 HX8 HO8 HQ8
      have hx0 := HP9.out.cell 0 _ rfl; have hx1 := HP9.out.cell 1 _ rfl; have hx2 := HP9.out.cell 2 _ rfl; have hx3 := HP9.out.cell 3 _ rfl; have hx4 := HP9.out.cell 4 _ rfl; have hx5 := HP9.out.cell 5 _ rfl; have hx6 := HP9.out.cell 6 _ rfl; have hx7 := HP9.out.cell 7 _ rfl; have hx8 := HP9.out.cell 8 _ rfl; have hx9 := HP9.out.cell 9 _ rfl; have hx10 := HP9.out.cell 10 _ rfl
      have hr0 := HX9.out.cell 0 _ rfl; have hr1 := HX9.out.cell 1 _ rfl; have hr2 := HX9.out.cell 2 _ rfl; have hr3 := HX9.out.cell 3 _ rfl; have hr4 := HX9.out.cell 4 _ rfl; have hr5 := HX9.out.cell 5 _ rfl; have hr6 := HX9.out.cell 6 _ rfl; have hr7 := HX9.out.cell 7 _ rfl; have hr8 := HX9.out.cell 8 _ rfl; have hr9 := HX9.out.cell 9 _ rfl; have hr10 := HX9.out.cell 10 _ rfl; have hrf := HX9.out.frozen
      have hnN : ∀ k, (Value.slice ua zn uc).ownBlock = some k → k ≠ N := own_ne HO9.out HX9.out (by decide)
      have hGN : World.grownBy (w8.setCell ⟨b, 4, none⟩ (.int .i64 (8 * o))) ((((((((((((w8.setCell ⟨b, 4, none⟩ (.int .i64 (8 * o))).setCell ⟨N, 0, none⟩ (.int .i64 x0)).setCell ⟨N, 1, none⟩ (.int .i64 x1)).setCell ⟨N, 2, none⟩ (.bool x2)).setCell ⟨N, 3, none⟩ (.bool true)).setCell ⟨N, 4, none⟩ (.int .i64 (8 * o))).setCell ⟨N, 5, none⟩ (.int .i64 x5)).setCell ⟨N, 6, none⟩ (.int .i64 x6)).setCell ⟨N, 7, none⟩ (.int .i64 x7)).setCell ⟨N, 8, none⟩ (.int .i64 x8)).setCell ⟨N, 9, none⟩ (.slice qa yn qc)).setCell ⟨N, 10, none⟩ (.slice ua zn uc)) (some N) := set11 _ N _ _ _ _ _ _ _ _ _ _ _
      have HOz := hide (HO9.out.gr2 hGN hnN)
      have hnM : ∀ k, (Value.slice qa yn qc).ownBlock = some k → k ≠ N := own_ne HQ9.out HX9.out (by decide)
      have HQz := hide (HQ9.out.gr2 hGN hnM)
      have HDz := hide (HD9.out.put HA.out HS.out hGN (by omega))
      clear hGN
      go_wp2_with fail
      subst hN
      exact bodyPost_ret (v := .agg #[.int .i64 x0, .int .i64 x1, .bool x2, .bool true, .int .i64 (8 * o), .int .i64 x5, .int .i64 x6, .int .i64 x7, .int .i64 x8, .slice qa yn qc, .slice ua zn uc]) (by simp [results, Tryz.results53, go_sem, hr0, hr1, hr2, hr3, hr4, hr5, hr6, hr7, hr8, hr9, hr10]) rfl ⟨_, rfl, ⟨_, _, _, _, _, _, _, _, _, _, _, ys, z, rfl, by rw [hyn]; exact HYL.out, by rw [hzn]; exact HZL.out, HQz.out, HOz.out, hapq⟩, HDz.out.2.2.1, HDz.out.2.1⟩
    · have hsb : (s == 0) = false := by rw [beq_eq_false_iff_ne]; exact hs0
      have hx0 := HP6.out.cell 0 _ rfl; have hx1 := HP6.out.cell 1 _ rfl; have hx2 := HP6.out.cell 2 _ rfl; have hx3 := HP6.out.cell 3 _ rfl; have hx4 := HP6.out.cell 4 _ rfl; have hx5 := HP6.out.cell 5 _ rfl; have hx6 := HP6.out.cell 6 _ rfl; have hx7 := HP6.out.cell 7 _ rfl; have hx8 := HP6.out.cell 8 _ rfl; have hx9 := HP6.out.cell 9 _ rfl; have hx10 := HP6.out.cell 10 _ rfl
      have hr0 := HX6.out.cell 0 _ rfl; have hr1 := HX6.out.cell 1 _ rfl; have hr2 := HX6.out.cell 2 _ rfl; have hr3 := HX6.out.cell 3 _ rfl; have hr4 := HX6.out.cell 4 _ rfl; have hr5 := HX6.out.cell 5 _ rfl; have hr6 := HX6.out.cell 6 _ rfl; have hr7 := HX6.out.cell 7 _ rfl; have hr8 := HX6.out.cell 8 _ rfl; have hr9 := HX6.out.cell 9 _ rfl; have hr10 := HX6.out.cell 10 _ rfl; have hrf := HX6.out.frozen
      have hnN : ∀ k, (Value.slice ua zn uc).ownBlock = some k → k ≠ N := own_ne HO6.out HX6.out (by decide)
      have hGN : World.grownBy w6 (((((((((((w6.setCell ⟨N, 0, none⟩ (.int .i64 x0)).setCell ⟨N, 1, none⟩ (.int .i64 x1)).setCell ⟨N, 2, none⟩ (.bool x2)).setCell ⟨N, 3, none⟩ (.bool false)).setCell ⟨N, 4, none⟩ (.int .i64 0)).setCell ⟨N, 5, none⟩ (.int .i64 x5)).setCell ⟨N, 6, none⟩ (.int .i64 x6)).setCell ⟨N, 7, none⟩ (.int .i64 x7)).setCell ⟨N, 8, none⟩ (.int .i64 x8)).setCell ⟨N, 9, none⟩ (.slice qa yn qc)).setCell ⟨N, 10, none⟩ (.slice ua zn uc)) (some N) := set11 _ N _ _ _ _ _ _ _ _ _ _ _
      have HOz := hide (HO6.out.gr2 hGN hnN)
      have hnM : ∀ k, (Value.slice qa yn qc).ownBlock = some k → k ≠ N := own_ne HQ6.out HX6.out (by decide)
      have HQz := hide (HQ6.out.gr2 hGN hnM)
      have HDz := hide (HD6.out.put HA.out HS.out hGN (by omega))
      clear hGN
      go_wp2_with fail
      subst hN
      exact bodyPost_ret (v := .agg #[.int .i64 x0, .int .i64 x1, .bool x2, .bool false, .int .i64 0, .int .i64 x5, .int .i64 x6, .int .i64 x7, .int .i64 x8, .slice qa yn qc, .slice ua zn uc]) (by simp [results, Tryz.results53, go_sem, hr0, hr1, hr2, hr3, hr4, hr5, hr6, hr7, hr8, hr9, hr10]) rfl ⟨_, rfl, ⟨_, _, _, _, _, _, _, _, _, _, _, ys, z, rfl, by rw [hyn]; exact HYL.out, by rw [hzn]; exact HZL.out, HQz.out, HOz.out, hapq⟩, HDz.out.2.2.1, HDz.out.2.1⟩
  · have hrb : (r == 0) = false := by rw [beq_eq_false_iff_ne]; exact hr
    go_wp2_with fail
    refine (l01Next_walk g 6 zs _ a cap HD2.out.1 HD2.out.2.1 (by omega) (by omega) hl).mono ?_
    rintro e w3 ⟨s, rfl, s0, s1, hg3, hs3⟩
    have HD3 := hide (HD2.out.step hg3 hs3)
    have HP3 := hide (HP2.out.gr hg3 hbg)
    have HX3 := hide (HX2.out.gr hg3 (by omega))
    have HO3 := hide (HO2.out.gr hg3 hgN)
    clear hg3 hs3 HD2 HP2 HX2 HO2
    by_cases hs0 : s = 0
    · subst hs0
      have hG3 : w3.grownBy (w3.setCell ⟨b, 3, none⟩ (.bool true)) (some b) := gset (grown_refl _ _) _ _
      have HP4 : Hid (HoldV (w3.setCell ⟨b, 3, none⟩ (.bool true)) b #[.int .i64 x0, .int .i64 x1, .bool x2, .bool true, .int .i64 0, .int .i64 x5, .int .i64 x6, .int .i64 x7, .int .i64 x8, .slice none 0 0, .slice ua zn uc] pkT) := hide (HP3.out.putc 3 _)
      have HD4 := hide (HD3.out.put HA.out HS.out hG3 (by omega))
      have HX4 := hide (HX3.out.gr hG3 (by omega))
      have HO4 := hide (HO3.out.gr2 hG3 hne)
      have cc := HP3.out.cell 3 _ rfl; have cf := HP3.out.frozen 3
      clear hG3 HD3 HP3 HX3 HO3
      go_wp2_with fail
      generalize w3.setCell ⟨b, 3, none⟩ (.bool true) = w4 at *
      clear cc cf
      refine (l01Next_walk g 100 zs _ a cap HD4.out.1 HD4.out.2.1 (by omega) (by omega) hl).mono ?_
      rintro e w5 ⟨o, rfl, o0, o1, hg5, hs5⟩
      have HD5 := hide (HD4.out.step hg5 hs5)
      have HP5 := hide (HP4.out.gr hg5 hbg)
      have HX5 := hide (HX4.out.gr hg5 (by omega))
      have HO5 := hide (HO4.out.gr hg5 hgN)
      clear hg5 hs5 HD4 HP4 HX4 HO4
      have ho : IntKind.i64.wrap (8 * o) = 8 * o := by rw [IntKind.wrap_i64]; omega
      have hG5 : w5.grownBy (w5.setCell ⟨b, 4, none⟩ (.int .i64 (8 * o))) (some b) := gset (grown_refl _ _) _ _
      have HP6 : Hid (HoldV (w5.setCell ⟨b, 4, none⟩ (.int .i64 (8 * o))) b #[.int .i64 x0, .int .i64 x1, .bool x2, .bool true, .int .i64 (8 * o), .int .i64 x5, .int .i64 x6, .int .i64 x7, .int .i64 x8, .slice none 0 0, .slice ua zn uc] pkT) := hide (HP5.out.putc 4 _)
      have HD6 := hide (HD5.out.put HA.out HS.out hG5 (by omega))
      have HX6 := hide (HX5.out.gr hG5 (by omega))
      have HO6 := hide (HO5.out.gr2 hG5 hne)
      have cc := HP5.out.cell 4 _ rfl; have cf := HP5.out.frozen 4
      clear hG5 HD5 HP5 HX5 HO5
      have hx0 := HP6.out.cell 0 _ rfl; have hx1 := HP6.out.cell 1 _ rfl; have hx2 := HP6.out.cell 2 _ rfl; have hx3 := HP6.out.cell 3 _ rfl; have hx4 := HP6.out.cell 4 _ rfl; have hx5 := HP6.out.cell 5 _ rfl; have hx6 := HP6.out.cell 6 _ rfl; have hx7 := HP6.out.cell 7 _ rfl; have hx8 := HP6.out.cell 8 _ rfl; have hx9 := HP6.out.cell 9 _ rfl; have hx10 := HP6.out.cell 10 _ rfl
      have hr0 := HX6.out.cell 0 _ rfl; have hr1 := HX6.out.cell 1 _ rfl; have hr2 := HX6.out.cell 2 _ rfl; have hr3 := HX6.out.cell 3 _ rfl; have hr4 := HX6.out.cell 4 _ rfl; have hr5 := HX6.out.cell 5 _ rfl; have hr6 := HX6.out.cell 6 _ rfl; have hr7 := HX6.out.cell 7 _ rfl; have hr8 := HX6.out.cell 8 _ rfl; have hr9 := HX6.out.cell 9 _ rfl; have hr10 := HX6.out.cell 10 _ rfl; have hrf := HX6.out.frozen
      have hnN : ∀ k, (Value.slice ua zn uc).ownBlock = some k → k ≠ N := own_ne HO6.out HX6.out (by decide)
      have hGN : World.grownBy (w5.setCell ⟨b, 4, none⟩ (.int .i64 (8 * o))) ((((((((((((w5.setCell ⟨b, 4, none⟩ (.int .i64 (8 * o))).setCell ⟨N, 0, none⟩ (.int .i64 x0)).setCell ⟨N, 1, none⟩ (.int .i64 x1)).setCell ⟨N, 2, none⟩ (.bool x2)).setCell ⟨N, 3, none⟩ (.bool true)).setCell ⟨N, 4, none⟩ (.int .i64 (8 * o))).setCell ⟨N, 5, none⟩ (.int .i64 x5)).setCell ⟨N, 6, none⟩ (.int .i64 x6)).setCell ⟨N, 7, none⟩ (.int .i64 x7)).setCell ⟨N, 8, none⟩ (.int .i64 x8)).setCell ⟨N, 9, none⟩ (.slice none 0 0)).setCell ⟨N, 10, none⟩ (.slice ua zn uc)) (some N) := set11 _ N _ _ _ _ _ _ _ _ _ _ _
      have HOz := hide (HO6.out.gr2 hGN hnN)
      have HQz : Hid (OwnB ((((((((((((w5.setCell ⟨b, 4, none⟩ (.int .i64 (8 * o))).setCell ⟨N, 0, none⟩ (.int .i64 x0)).setCell ⟨N, 1, none⟩ (.int .i64 x1)).setCell ⟨N, 2, none⟩ (.bool x2)).setCell ⟨N, 3, none⟩ (.bool true)).setCell ⟨N, 4, none⟩ (.int .i64 (8 * o))).setCell ⟨N, 5, none⟩ (.int .i64 x5)).setCell ⟨N, 6, none⟩ (.int .i64 x6)).setCell ⟨N, 7, none⟩ (.int .i64 x7)).setCell ⟨N, 8, none⟩ (.int .i64 x8)).setCell ⟨N, 9, none⟩ (.slice none 0 0)).setCell ⟨N, 10, none⟩ (.slice ua zn uc)) N (.slice none 0 0) []) := hide ⟨World.ownsRow_nil _ _ _ _, by simp⟩
      have HDz := hide (HD6.out.put HA.out HS.out hGN (by omega))
      clear hGN
      go_wp2_with fail
      subst hN
      exact bodyPost_ret (v := .agg #[.int .i64 x0, .int .i64 x1, .bool x2, .bool true, .int .i64 (8 * o), .int .i64 x5, .int .i64 x6, .int .i64 x7, .int .i64 x8, .slice none 0 0, .slice ua zn uc]) (by simp [results, Tryz.results53, go_sem, hr0, hr1, hr2, hr3, hr4, hr5, hr6, hr7, hr8, hr9, hr10]) rfl ⟨_, rfl, ⟨_, _, _, _, _, _, _, _, _, _, _, [], z, rfl, by simp, by rw [hzn]; exact HZL.out, HQz.out, HOz.out, by intro b hb; cases hb⟩, HDz.out.2.2.1, HDz.out.2.1⟩
    · have hsb : (s == 0) = false := by rw [beq_eq_false_iff_ne]; exact hs0
      have hx0 := HP3.out.cell 0 _ rfl; have hx1 := HP3.out.cell 1 _ rfl; have hx2 := HP3.out.cell 2 _ rfl; have hx3 := HP3.out.cell 3 _ rfl; have hx4 := HP3.out.cell 4 _ rfl; have hx5 := HP3.out.cell 5 _ rfl; have hx6 := HP3.out.cell 6 _ rfl; have hx7 := HP3.out.cell 7 _ rfl; have hx8 := HP3.out.cell 8 _ rfl; have hx9 := HP3.out.cell 9 _ rfl; have hx10 := HP3.out.cell 10 _ rfl
      have hr0 := HX3.out.cell 0 _ rfl; have hr1 := HX3.out.cell 1 _ rfl; have hr2 := HX3.out.cell 2 _ rfl; have hr3 := HX3.out.cell 3 _ rfl; have hr4 := HX3.out.cell 4 _ rfl; have hr5 := HX3.out.cell 5 _ rfl; have hr6 := HX3.out.cell 6 _ rfl; have hr7 := HX3.out.cell 7 _ rfl; have hr8 := HX3.out.cell 8 _ rfl; have hr9 := HX3.out.cell 9 _ rfl; have hr10 := HX3.out.cell 10 _ rfl; have hrf := HX3.out.frozen
      have hnN : ∀ k, (Value.slice ua zn uc).ownBlock = some k → k ≠ N := own_ne HO3.out HX3.out (by decide)
      have hGN : World.grownBy w3 (((((((((((w3.setCell ⟨N, 0, none⟩ (.int .i64 x0)).setCell ⟨N, 1, none⟩ (.int .i64 x1)).setCell ⟨N, 2, none⟩ (.bool x2)).setCell ⟨N, 3, none⟩ (.bool false)).setCell ⟨N, 4, none⟩ (.int .i64 0)).setCell ⟨N, 5, none⟩ (.int .i64 x5)).setCell ⟨N, 6, none⟩ (.int .i64 x6)).setCell ⟨N, 7, none⟩ (.int .i64 x7)).setCell ⟨N, 8, none⟩ (.int .i64 x8)).setCell ⟨N, 9, none⟩ (.slice none 0 0)).setCell ⟨N, 10, none⟩ (.slice ua zn uc)) (some N) := set11 _ N _ _ _ _ _ _ _ _ _ _ _
      have HOz := hide (HO3.out.gr2 hGN hnN)
      have HQz : Hid (OwnB (((((((((((w3.setCell ⟨N, 0, none⟩ (.int .i64 x0)).setCell ⟨N, 1, none⟩ (.int .i64 x1)).setCell ⟨N, 2, none⟩ (.bool x2)).setCell ⟨N, 3, none⟩ (.bool false)).setCell ⟨N, 4, none⟩ (.int .i64 0)).setCell ⟨N, 5, none⟩ (.int .i64 x5)).setCell ⟨N, 6, none⟩ (.int .i64 x6)).setCell ⟨N, 7, none⟩ (.int .i64 x7)).setCell ⟨N, 8, none⟩ (.int .i64 x8)).setCell ⟨N, 9, none⟩ (.slice none 0 0)).setCell ⟨N, 10, none⟩ (.slice ua zn uc)) N (.slice none 0 0) []) := hide ⟨World.ownsRow_nil _ _ _ _, by simp⟩
      have HDz := hide (HD3.out.put HA.out HS.out hGN (by omega))
      clear hGN
      go_wp2_with fail
      subst hN
      exact bodyPost_ret (v := .agg #[.int .i64 x0, .int .i64 x1, .bool x2, .bool false, .int .i64 0, .int .i64 x5, .int .i64 x6, .int .i64 x7, .int .i64 x8, .slice none 0 0, .slice ua zn uc]) (by simp [results, Tryz.results53, go_sem, hr0, hr1, hr2, hr3, hr4, hr5, hr6, hr7, hr8, hr9, hr10]) rfl ⟨_, rfl, ⟨_, _, _, _, _, _, _, _, _, _, _, [], z, rfl, by simp, by rw [hzn]; exact HZL.out, HQz.out, HOz.out, by intro b hb; cases hb⟩, HDz.out.2.2.1, HDz.out.2.1⟩
end Go.Proofs.YthbkhfiadkookaaGreatDoor
