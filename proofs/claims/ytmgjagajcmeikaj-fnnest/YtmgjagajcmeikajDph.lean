/-
Contracts of functions of this seat.
-/
import Derived.Test.YtmgjagajcmeikajRows
import Derived.WalkKit
import Derived.ProofKit
import Derived.OpenShut
import Derived.Test.YtmgjagajcmeikajPfx
import Derived.Deep.RegionWith
namespace Go.Proofs.Ytmgjagajcmeikaj
open Go.ChangeShapes Go.WideShapes Go.ChangeAt Go.RowKit
set_option linter.unusedVariables false
set_option maxHeartbeats 1000000 in
theorem l01Begin_walk (a : Option Addr) (n cap : Nat) (zs : List Int) (w : World) (hn : zs.length = n) (ha : Arr w a zs) (hm : n ≤ 2097152) :
    Calls Try.prog 10 #[.slice a n cap] w fun e w' => ∃ st : Int, e = .returned (.agg #[.slice a n cap, .int .i64 0, .int .u64 st]) ∧ 0 ≤ st ∧ st ≤ 18446744073709551615 ∧ Below w.heap.size w w' := by
  have HN := hide hn
  have HA := hide ha
  clear hn ha
  go_enter Try.func10, Try.ntmps10
  go_wp2_with fail
  have hmade := hide (made_start w 35 a n cap 1469598103934665603 (by omega) (by omega))
  generalize (w.alloc (.cells #[.slice none 0 0, .int .i64 0, .int .u64 0] 35)).alloc (.cells #[.slice a n cap, .int .i64 0, .int .u64 1469598103934665603] 35) = W at *
  go_loopw [4] (fun t w2 => ∃ k : Nat, k ≤ n ∧ t = .int .i64 k ∧ Hid (Made w w2 35 a n cap)) (fun t _ => n - (intOf t).toNat)
  case atStart => exact ⟨0, Nat.zero_le _, rfl, hmade⟩
  case round =>
    obtain ⟨k, hk, rfl, HM⟩ := hrel
    obtain ⟨hb, hz, hr, st, hs0, hs1, hg⟩ := HM.out
    by_cases hlt : k < n
    · obtain ⟨b, off, rfl, hbs, hc0⟩ := HA.out.2 k (by rw [HN.out]; exact hlt)
      have hc : wr.cell? ⟨b, off + k, none⟩ = some (.int .u8 (zs.getD k 0)) := by rw [hb.cell (p := ⟨b, off + k, none⟩) hbs]; exact hc0
      clear hc0
      have hz := getD_bd HA.out.1 k
      generalize zs.getD k 0 = z at *
      obtain ⟨c0, c1, c2, hf⟩ := src_cells hg
      clear hr hg hmade c0 c1
      have hx := xor_u64_bd st z
      go_wp2
      go_region
      go_wp2
      have hw := wrap_u64_bd (bits .xor .u64 st z * 1099511628211)
      exact ⟨⟨k + 1, by omega, by go_num, hide (made_set HM.out _ hw.1 hw.2)⟩, by simp [intOf]; omega⟩
    · obtain ⟨c0, c1, c2, hf⟩ := src_cells hg
      obtain ⟨d0, d1, d2, hf2⟩ := src_cells hr
      clear hr hg hmade
      go_wp2
      exact bodyPost_ret (v := .agg #[.slice a n cap, .int .i64 0, .int .u64 st]) (by simp [results, Try.results10, go_sem, d0, d1, d2]) rfl ⟨st, rfl, hs0, hs1, ((hb.setCell (Nat.le_refl _) _).setCell (Nat.le_refl _) _).setCell (Nat.le_refl _) _⟩

set_option maxHeartbeats 4000000 in
theorem l02Ill_walk (g : Nat) (zs : List Int) (w : World) (a : Option Addr) (cap : Nat) (harr : Arr w a zs) (hsrc : SrcA w g 35 zs.length a cap) (hl : zs.length ≤ 2097152) :
    Calls Try.prog 11 #[.pointer (some ⟨g, 0, none⟩)] w fun e w' => ∃ x b : Int, e = .returned (.agg #[.int .i64 x, .int .i64 b]) ∧ -1 ≤ x ∧ x ≤ 4294967296 ∧ -1 ≤ b ∧ b ≤ 33 ∧ w.grownBy w' (some g) ∧ SrcA w' g 35 zs.length a cap := by
  have HA0 := hide (harr.below ((Below.refl w.heap.size w).alloc (Nat.le_refl _) (.cells #[.int .i64 0, .int .i64 0] 24)) (Nat.le_refl _))
  have HS0 := hide (hsrc.alloc (.cells #[.int .i64 0, .int .i64 0] 24))
  have hglt := hsrc.lt
  have hr0 := heap_alloc_new w (.cells #[.int .i64 0, .int .i64 0] 24)
  have hg0 := World.grownBy_alloc w (.cells #[.int .i64 0, .int .i64 0] 24) (some g)
  clear harr hsrc
  go_enter Try.func11, Try.ntmps11
  go_wp2_with fail
  generalize w.alloc (.cells #[.int .i64 0, .int .i64 0] 24) = W0 at *
  refine (l02Prefix_walk _ zs _ a cap HA0.out HS0.out hl).mono ?_
  rintro e w2 ⟨x, b, rfl, x0, x1, b0, b1, hn2, hs2⟩
  have HS2 := hide (hs2.alloc (.cells #[.int .i64 x, .int .i64 b] 24))
  have HA2 := hide ((HA0.out.srcA HS0.out hn2).below ((Below.refl w2.heap.size w2).alloc (Nat.le_refl _) (.cells #[.int .i64 x, .int .i64 b] 24)) (Nat.le_refl _))
  have hr2 := keep_block hr0 hn2 (by omega)
  have hp2 := heap_alloc_new w2 (.cells #[.int .i64 x, .int .i64 b] 24)
  have hlt2 : w.heap.size < w2.heap.size := by
    by_cases hlt : w.heap.size < w2.heap.size
    · exact hlt
    · rw [Array.getElem?_eq_none (by omega)] at hr2; cases hr2
  have hr2' := (Below.heap_alloc w2 (.cells #[.int .i64 x, .int .i64 b] 24) w.heap.size hlt2).trans hr2
  have hg2 := grown_alloc (grown_trans hg0 hn2) (.cells #[.int .i64 x, .int .i64 b] 24)
  clear hs2 hr2 hg0 hn2 hr0
  go_wp2_with fail
  generalize w2.alloc (.cells #[.int .i64 x, .int .i64 b] 24) = W2 at *
  refine (l01Next_walk _ _ zs _ a cap HA2.out HS2.out (by omega) (by omega) hl).mono ?_
  rintro e w3 ⟨r, rfl, r0, r1, hn3, hs3⟩
  have HS3 := hide hs3
  have hr3 := keep_block hr2' hn3 (by omega)
  have hp3 := keep_block hp2 hn3 (by omega)
  have HG3 := hide (grown_trans hg2 hn3)
  obtain ⟨c0, c1, cf⟩ := pair_cells hp3
  obtain ⟨d0, d1, df⟩ := pair_cells hr3
  clear hs3 hr2' hp2 hg2 hn3 hp3 hr3
  have hne : w2.heap.size ≠ w.heap.size := by omega
  have hgw : g ≠ w.heap.size := by omega
  have hgp : g ≠ w2.heap.size := by omega
  rcases (show r = 0 ∨ r = 1 ∨ r = 2 ∨ r = 3 ∨ (r ≠ 0 ∧ r ≠ 1 ∧ r ≠ 2 ∧ r ≠ 3) by omega) with rfl | rfl | rfl | rfl | ⟨k0, k1, k2, k3⟩
  · go_wp2_with fail
    exact bodyPost_ret (v := .agg #[.int .i64 x, .int .i64 33]) (by simp [results, Try.results11, go_sem, d0, d1]) rfl ⟨x, 33, rfl, by omega, by omega, by omega, by omega, (grown_set (grown_set (grown_set HG3.out (p := ⟨w2.heap.size, _, none⟩) (by show w.heap.size ≤ w2.heap.size; omega) _) (p := ⟨w.heap.size, _, none⟩) (Nat.le_refl _) _) (p := ⟨w.heap.size, _, none⟩) (Nat.le_refl _) _), (SrcA.set (SrcA.set (SrcA.set HS3.out (p := ⟨w2.heap.size, _, none⟩) hgp _) (p := ⟨w.heap.size, _, none⟩) hgw _) (p := ⟨w.heap.size, _, none⟩) hgw _)⟩
  · go_wp2_with fail
    exact bodyPost_ret (v := .agg #[.int .i64 x, .int .i64 (-1)]) (by simp [results, Try.results11, go_sem, d0, d1]) rfl ⟨x, (-1), rfl, by omega, by omega, by omega, by omega, (grown_set (grown_set (grown_set HG3.out (p := ⟨w2.heap.size, _, none⟩) (by show w.heap.size ≤ w2.heap.size; omega) _) (p := ⟨w.heap.size, _, none⟩) (Nat.le_refl _) _) (p := ⟨w.heap.size, _, none⟩) (Nat.le_refl _) _), (SrcA.set (SrcA.set (SrcA.set HS3.out (p := ⟨w2.heap.size, _, none⟩) hgp _) (p := ⟨w.heap.size, _, none⟩) hgw _) (p := ⟨w.heap.size, _, none⟩) hgw _)⟩
  · go_wp2_with fail
    exact bodyPost_ret (v := .agg #[.int .i64 (x + 1), .int .i64 b]) (by simp [results, Try.results11, go_sem, d0, d1]) rfl ⟨(x + 1), b, rfl, by omega, by omega, by omega, by omega, (grown_set (grown_set (grown_set HG3.out (p := ⟨w2.heap.size, _, none⟩) (by show w.heap.size ≤ w2.heap.size; omega) _) (p := ⟨w.heap.size, _, none⟩) (Nat.le_refl _) _) (p := ⟨w.heap.size, _, none⟩) (Nat.le_refl _) _), (SrcA.set (SrcA.set (SrcA.set HS3.out (p := ⟨w2.heap.size, _, none⟩) hgp _) (p := ⟨w.heap.size, _, none⟩) hgw _) (p := ⟨w.heap.size, _, none⟩) hgw _)⟩
  · go_wp2_with fail
    exact bodyPost_ret (v := .agg #[.int .i64 (-1), .int .i64 b]) (by simp [results, Try.results11, go_sem, d0, d1]) rfl ⟨(-1), b, rfl, by omega, by omega, by omega, by omega, (grown_set (grown_set (grown_set HG3.out (p := ⟨w2.heap.size, _, none⟩) (by show w.heap.size ≤ w2.heap.size; omega) _) (p := ⟨w.heap.size, _, none⟩) (Nat.le_refl _) _) (p := ⟨w.heap.size, _, none⟩) (Nat.le_refl _) _), (SrcA.set (SrcA.set (SrcA.set HS3.out (p := ⟨w2.heap.size, _, none⟩) hgp _) (p := ⟨w.heap.size, _, none⟩) hgw _) (p := ⟨w.heap.size, _, none⟩) hgw _)⟩
  · have e0 : (r == 0) = false := by rw [beq_eq_false_iff_ne]; exact k0
    have e1 : (r == 1) = false := by rw [beq_eq_false_iff_ne]; exact k1
    have e2 : (r == 2) = false := by rw [beq_eq_false_iff_ne]; exact k2
    have e3 : (r == 3) = false := by rw [beq_eq_false_iff_ne]; exact k3
    clear k0 k1 k2 k3
    go_wp2_with fail
    exact bodyPost_ret (v := .agg #[.int .i64 x, .int .i64 b]) (by simp [results, Try.results11, go_sem, d0, d1]) rfl ⟨x, b, rfl, by omega, by omega, by omega, by omega, (grown_set (grown_set HG3.out (p := ⟨w.heap.size, _, none⟩) (Nat.le_refl _) _) (p := ⟨w.heap.size, _, none⟩) (Nat.le_refl _) _), (SrcA.set (SrcA.set HS3.out (p := ⟨w.heap.size, _, none⟩) hgw _) (p := ⟨w.heap.size, _, none⟩) hgw _)⟩

theorem srcA_new {w : World} {t n cap : Nat} {a : Option Addr} {st : Int} (h0 : 0 ≤ st) (h1 : st ≤ 18446744073709551615) :
    SrcA (w.alloc (.cells #[.slice a n cap, .int .i64 0, .int .u64 st] t)) w.heap.size t n a cap :=
  ⟨0, st, heap_alloc_new w _, Int.le_refl _, by omega, h0, h1⟩
set_option maxHeartbeats 1000000 in
theorem drawShowPrefix_walk (a : Option Addr) (n cap : Nat) (zs : List Int) (w : World) (hn : zs.length = n) (ha : Arr w a zs) (hm : n ≤ 2097152) :
    Calls Try.prog 14 #[.slice a n cap] w fun e w' => ∃ x b : Int, e = .returned (.agg #[.int .i64 x, .int .i64 b]) ∧ -1 ≤ x ∧ x ≤ 4294967296 ∧ -1 ≤ b ∧ b ≤ 33 ∧ Below w.heap.size w w' := by
  subst hn
  have hbR := (Below.refl w.heap.size w).alloc (Nat.le_refl _) (.cells #[.int .i64 0, .int .i64 0] 24)
  have HA := hide (ha.below hbR (Nat.le_refl _))
  have hr0 := heap_alloc_new w (.cells #[.int .i64 0, .int .i64 0] 24)
  have hsR : (w.alloc (.cells #[.int .i64 0, .int .i64 0] 24)).heap.size = w.heap.size + 1 := World.size_alloc _ _
  clear ha
  go_enter Try.func14, Try.ntmps14
  go_wp2_with fail
  generalize w.alloc (.cells #[.int .i64 0, .int .i64 0] 24) = WR at *
  have HSR := hide hsR
  have hlt : w.heap.size < WR.heap.size := by omega
  clear hsR
  refine (l01Begin_walk _ _ _ zs _ rfl HA.out hm).mono ?_
  rintro e w1 ⟨st, rfl, hs0, hs1, hb1⟩
  have hr1 := (hb1.block w.heap.size hlt).trans hr0
  have hlt1 : w.heap.size < w1.heap.size := Nat.lt_of_lt_of_le hlt hb1.size
  have hba := (Below.refl w1.heap.size w1).alloc (Nat.le_refl _) (.cells #[.slice a zs.length cap, .int .i64 0, .int .u64 st] 35)
  have HS1 := hide (srcA_new (w := w1) (t := 35) (n := zs.length) (cap := cap) (a := a) hs0 hs1)
  have HA1 := hide ((HA.out.below hb1 (Nat.le_refl _)).below hba (Nat.le_refl _))
  have hr1' := (hba.block w.heap.size hlt1).trans hr1
  go_wp2_with fail
  generalize w1.alloc (.cells #[.slice a zs.length cap, .int .i64 0, .int .u64 st] 35) = W1 at *
  refine (l02Ill_walk _ zs _ a cap HA1.out HS1.out hm).mono ?_
  rintro e w2 ⟨x, b, rfl, x0, x1, b0, b1, hn2, hs2⟩
  have hr2 := keep_block hr1' hn2 (by omega)
  obtain ⟨d0, d1, df⟩ := pair_cells hr2
  have hbW : Below w.heap.size w W1 := (hbR.trans (hb1.mono hbR.size)).trans (hba.mono (by omega))
  have hb2 : Below w.heap.size w w2 := hbW.trans (below_grown (by omega) hbW.size hn2)
  clear hr0 hr1 hr1' hr2 hbR hb1 hba hbW hn2 hs2
  go_wp2_with fail
  exact bodyPost_ret (v := .agg #[.int .i64 x, .int .i64 b]) (by simp [results, Try.results14, go_sem, d0, d1]) rfl ⟨x, b, rfl, x0, x1, b0, b1, (hb2.setCell (Nat.le_refl _) _).setCell (Nat.le_refl _) _⟩
set_option maxHeartbeats 1000000 in
theorem drawBroadcast_walk (a : Option Addr) (n cap : Nat) (zs : List Int) (w : World) (hn : zs.length = n) (ha : Arr w a zs) (hm : n ≤ 2097152) :
    Calls Try.prog 5 #[.slice a n cap] w fun e w' => ∃ x b : Int, e = .returned (.agg #[.int .i64 x, .int .i64 b]) ∧ -1 ≤ x ∧ x ≤ 4294967296 ∧ -1 ≤ b ∧ b ≤ 33 ∧ Below w.heap.size w w' := by
  subst hn
  have hbR := (Below.refl w.heap.size w).alloc (Nat.le_refl _) (.cells #[.int .i64 0, .int .i64 0] 24)
  have HA := hide (ha.below hbR (Nat.le_refl _))
  have hr0 := heap_alloc_new w (.cells #[.int .i64 0, .int .i64 0] 24)
  have hlt : w.heap.size < (w.alloc (.cells #[.int .i64 0, .int .i64 0] 24)).heap.size := by rw [World.size_alloc]; omega
  clear ha
  go_enter Try.func5, Try.ntmps5
  go_wp2_with fail
  generalize w.alloc (.cells #[.int .i64 0, .int .i64 0] 24) = WR at *
  refine (drawShowPrefix_walk _ _ _ zs _ rfl HA.out hm).mono ?_
  rintro e w2 ⟨x, b, rfl, x0, x1, b0, b1, hb1⟩
  have hr2 := (hb1.block w.heap.size hlt).trans hr0
  obtain ⟨d0, d1, df⟩ := pair_cells hr2
  have hb2 : Below w.heap.size w w2 := hbR.trans (hb1.mono hbR.size)
  clear hr0 hr2 hbR hb1
  go_wp2_with fail
  exact bodyPost_ret (v := .agg #[.int .i64 x, .int .i64 b]) (by simp [results, Try.results5, go_sem, d0, d1]) rfl ⟨x, b, rfl, x0, x1, b0, b1, (hb2.setCell (Nat.le_refl _) _).setCell (Nat.le_refl _) _⟩

set_option maxHeartbeats 4000000 in
theorem drawPrefixHas_walk (a : Option Addr) (n cap : Nat) (zs : List Int) (w : World) (hn : zs.length = n) (ha : Arr w a zs) (hm : n ≤ 2097152) :
    Calls Try.prog 4 #[.slice a n cap] w fun e w' => ∃ x b y : Int, e = .returned (.tuple #[.agg #[.int .i64 x, .int .i64 b], .int .i64 y]) ∧ -1 ≤ x ∧ x ≤ 4294967296 ∧ -1 ≤ b ∧ b ≤ 33 ∧ Below w.heap.size w w' := by
  subst hn
  have hbR := (Below.refl w.heap.size w).alloc (Nat.le_refl _) (.cells #[.int .i64 0, .int .i64 0] 24)
  have HA := hide (ha.below hbR (Nat.le_refl _))
  have hr0 := heap_alloc_new w (.cells #[.int .i64 0, .int .i64 0] 24)
  have hsR : (w.alloc (.cells #[.int .i64 0, .int .i64 0] 24)).heap.size = w.heap.size + 1 := World.size_alloc _ _
  clear ha
  go_enter Try.func4, Try.ntmps4
  go_wp2_with fail
  generalize w.alloc (.cells #[.int .i64 0, .int .i64 0] 24) = WR at *
  have HSR := hide hsR
  have hlt : w.heap.size < WR.heap.size := by omega
  clear hsR
  refine (l01Begin_walk _ _ _ zs _ rfl HA.out hm).mono ?_
  rintro e w1 ⟨st, rfl, hs0, hs1, hb1⟩
  have hr1 := (hb1.block w.heap.size hlt).trans hr0
  have hlt1 : w.heap.size < w1.heap.size := Nat.lt_of_lt_of_le hlt hb1.size
  have hba := (Below.refl w1.heap.size w1).alloc (Nat.le_refl _) (.cells #[.slice a zs.length cap, .int .i64 0, .int .u64 st] 35)
  have HS1 := hide (srcA_new (w := w1) (t := 35) (n := zs.length) (cap := cap) (a := a) hs0 hs1)
  have HA1 := hide ((HA.out.below hb1 (Nat.le_refl _)).below hba (Nat.le_refl _))
  have hr1' := (hba.block w.heap.size hlt1).trans hr1
  go_wp2_with fail
  generalize w1.alloc (.cells #[.slice a zs.length cap, .int .i64 0, .int .u64 st] 35) = W1 at *
  refine (l02Ill_walk _ zs _ a cap HA1.out HS1.out hm).mono ?_
  rintro e w2 ⟨x, b, rfl, x0, x1, b0, b1, hn2, hs2⟩
  have hr2 := keep_block hr1' hn2 (by omega)
  have hbW : Below w.heap.size w W1 := (hbR.trans (hb1.mono hbR.size)).trans (hba.mono (by omega))
  have hb2 : Below w.heap.size w w2 := hbW.trans (below_grown (by omega) hbW.size hn2)
  have hgs := hs2.lt
  have HS2 := hide (hs2.alloc (.cells #[.int .i64 x, .int .i64 b] 24))
  have hbp := (Below.refl w2.heap.size w2).alloc (Nat.le_refl _) (.cells #[.int .i64 x, .int .i64 b] 24)
  have HA2 := hide ((HA1.out.srcA HS1.out hn2).below hbp (Nat.le_refl _))
  have hp2 := heap_alloc_new w2 (.cells #[.int .i64 x, .int .i64 b] 24)
  have hr2' := (hbp.block w.heap.size (by omega)).trans hr2
  have hb2' := hb2.trans (hbp.mono hb2.size)
  clear hr0 hr1 hr1' hr2 hbR hb1 hba hbW hn2 hs2 hb2
  go_wp2_with fail
  generalize w2.alloc (.cells #[.int .i64 x, .int .i64 b] 24) = W2 at *
  refine (l01Next_walk _ _ zs _ a cap HA2.out HS2.out (by omega) (by omega) hm).mono ?_
  rintro e w3 ⟨r, rfl, r0, r1, hn3, hs3⟩
  have HP := hide (keep_block hp2 hn3 (by omega))
  have HR := hide (keep_block hr2' hn3 (by omega))
  have HS3 := hide hs3
  have HA3 := hide (HA2.out.srcA HS2.out hn3)
  have HB3 := hide (hb2'.trans (below_grown (by omega) hb2'.size hn3))
  have hlt3 : w.heap.size < w3.heap.size := by have := hn3.size; have := hbp.size; omega
  obtain ⟨c0, c1, cf⟩ := pair_cells HP.out
  obtain ⟨d0, d1, df⟩ := pair_cells HR.out
  clear hp2 hr2' hn3 hs3 hb2' hbp
  by_cases hr : r = 0
  · subst hr
    go_wp2_with fail
    go_region_with (first | (go_at_call 12; refine (l01Next_walk _ _ zs _ a cap (show Arr w3.drew a zs from HA3.out) (show SrcA w3.drew _ _ _ _ _ from HS3.out) (by omega) (by omega) hm).mono ?_; rintro e w4 ⟨y, rfl, y0, y1, hn4, hs4⟩; have hp4 := keep_block (show w3.drew.heap[w2.heap.size]? = _ from HP.out) hn4 (by omega); have hr4 := keep_block (show w3.drew.heap[w.heap.size]? = _ from HR.out) hn4 (by omega); obtain ⟨k0, k1, kf⟩ := pair_cells hp4; obtain ⟨l0, l1, lf⟩ := pair_cells hr4))
    all_goals
      have hb4 : Below w.heap.size w w4 := HB3.out.trans (below_grown (w := w3.drew) (by omega) HB3.out.size hn4 |> fun h => ⟨h.os, h.tape, h.output, h.size, h.block⟩)
      go_wp2_with fail
      refine bodyPost_ret (v := .tuple #[.agg #[.int .i64 x, .int .i64 b], .int .i64 _]) (by simp [results, Try.results4, go_sem, l0, l1]; rfl) rfl ⟨x, b, _, rfl, x0, x1, b0, b1, ?_⟩
      repeat (first | exact hb4 | refine Below.drew ?_ | refine Below.setCell (B := w.heap.size) ?_ (p := ⟨w.heap.size, _, none⟩) (Nat.le_refl _) _)
  · have hr' : (r == 0) = false := by rw [beq_eq_false_iff_ne]; exact hr
    clear hr
    go_wp2_with fail
    go_region_with (first | (go_at_call 13; refine (l02Addr_walk _ zs _ a cap (show Arr w3.drew a zs from HA3.out) (show SrcA w3.drew _ _ _ _ _ from HS3.out) hm).mono ?_; rintro e w4 ⟨y, rfl, y0, y1, hn4, hs4⟩; have hp4 := keep_block (show w3.drew.heap[w2.heap.size]? = _ from HP.out) hn4 (by omega); have hr4 := keep_block (show w3.drew.heap[w.heap.size]? = _ from HR.out) hn4 (by omega); obtain ⟨k0, k1, kf⟩ := pair_cells hp4; obtain ⟨l0, l1, lf⟩ := pair_cells hr4))
    all_goals
      have hb4 : Below w.heap.size w w4 := HB3.out.trans (below_grown (w := w3.drew) (by omega) HB3.out.size hn4 |> fun h => ⟨h.os, h.tape, h.output, h.size, h.block⟩)
      go_wp2_with fail
      refine bodyPost_ret (v := .tuple #[.agg #[.int .i64 x, .int .i64 b], .int .i64 _]) (by simp [results, Try.results4, go_sem, l0, l1]; rfl) rfl ⟨x, b, _, rfl, x0, x1, b0, b1, ?_⟩
      repeat (first | exact hb4 | refine Below.drew ?_ | refine Below.setCell (B := w.heap.size) ?_ (p := ⟨w.heap.size, _, none⟩) (Nat.le_refl _) _)
end Go.Proofs.Ytmgjagajcmeikaj
