/-
Contracts of functions of this seat.
-/
import Derived.Test.YtmgjagajcmeikalDoorRows
import Derived.WalkKit
import Derived.ProofKit
import Derived.OpenShut
import Derived.Test.YtmgjagajcmeikalDoorSrc
namespace Go.Proofs.YtmgjagajcmeikalDoor
open Go.ChangeShapes Go.WideShapes Go.ChangeAt Go.RowKit
set_option linter.unusedVariables false
theorem Src.below {B : Nat} {w w' : World} {g t : Nat} {zs : List Int} (h : Src w g t zs) (hb : Below B w w') (hB : w.heap.size ≤ B) : Src w' g t zs := by
  obtain ⟨a, cap, pos, st, hg, harr, hp0, hp1, hs0, hs1⟩ := h
  have hlt : g < w.heap.size := by
    by_cases hlt : g < w.heap.size
    · exact hlt
    · rw [Array.getElem?_eq_none (by omega)] at hg; cases hg
  exact ⟨a, cap, pos, st, by rw [hb.block g (by omega)]; exact hg, harr.below hb hB, hp0, hp1, hs0, hs1⟩
theorem src_new {w : World} {t : Nat} {a : Option Addr} {n cap : Nat} {st : Int} {zs : List Int} (hn : zs.length = n) (ha : Arr w a zs) (h0 : 0 ≤ st) (h1 : st ≤ 18446744073709551615) :
    Src (w.alloc (.cells #[.slice a n cap, .int .i64 0, .int .u64 st] t)) w.heap.size t zs := by
  refine ⟨a, cap, 0, st, by rw [hn]; exact heap_alloc_new w _, ha.below ((Below.refl w.heap.size w).alloc (Nat.le_refl _) _) (Nat.le_refl _), Int.le_refl _, by omega, h0, h1⟩

set_option maxHeartbeats 1000000 in
theorem lwNext_more (g : Nat) (n : Int) (zs : List Int) (w : World) (a : Option Addr) (cap k : Nat) (st : Int) (hb : w.heap[g]? = some (.cells #[.slice a zs.length cap, .int .i64 (k : Int), .int .u64 st] 25)) (harr : Arr w a zs)
    (hk : k < zs.length) (hs0 : 0 ≤ st) (hs1 : st ≤ 18446744073709551615) (hn : 0 < n) (hn1 : n ≤ 9223372036854775807) (hl : zs.length ≤ 2097152) :
    Calls Tryd.prog 5 #[.pointer (some ⟨g, 0, none⟩), .int .i64 n] w fun e w' => ∃ r : Int, e = .returned (.int .i64 r) ∧ 0 ≤ r ∧ r < n ∧ w.grownBy w' (some g) ∧ Src w' g 25 zs := by
  obtain ⟨c0, c1, c2, hf⟩ := src_cells hb
  have HB := hide hb
  have HA := hide harr
  clear hb harr
  generalize hlen : zs.length = len at *
  have HL := hide hlen
  clear hlen
  go_enter Tryd.func5, Tryd.ntmps5
  go_wp2_with fail
  have hs2 := wrap_u64_bd (IntKind.u64.wrap (st * 6364136223846793005) + 1442695040888963407)
  generalize IntKind.u64.wrap (IntKind.u64.wrap (st * 6364136223846793005) + 1442695040888963407) = s1 at *
  obtain ⟨hb1, hg1⟩ := src_set (j := 2) (.int .u64 s1) HB.out
  have hb1' : (w.setCell ⟨g, 2, none⟩ (.int .u64 s1)).heap[g]? = some (.cells #[.slice a len cap, .int .i64 (k : Int), .int .u64 s1] 25) := hb1
  have HA1 := hide (HA.out.grown hg1 HB.out (by simp) (by simp) (by simp))
  clear hb1 c0 c1 c2 hf
  generalize w.setCell ⟨g, 2, none⟩ (.int .u64 s1) = W1 at *
  obtain ⟨c0, c1, c2, hf⟩ := src_cells hb1'
  have HB1 := hide hb1'
  clear hb1'
  go_quiet (fail)
  revert nq
  intro nq1
  go_wp2_with fail
  obtain ⟨b, off, rfl, hbs, hc⟩ := HA1.out.2 k (by rw [HL.out]; exact hk)
  go_quiet (fail)
  go_wp2_with fail
  go_ret
  obtain ⟨hb2, hg2⟩ := src_set (w := W1.drewN (nq1 + nq)) (j := 1) (.int .i64 ((k : Int) + 1)) HB1.out
  have hr := rem_bd (xor_u64_bd (s1 / 8589934592) (IntKind.u64.wrap (zs[k]?.getD 0))).1 hn hn1
  have hG := grown_trans (grown_drewN hg1 (nq1 + nq)) hg2
  refine ⟨_, rfl, hr.1, hr.2, hG, some ⟨b, off, none⟩, cap, (k : Int) + 1, s1, ?_, ?_, by omega, ?_, hs2.1, hs2.2⟩
  · rw [HL.out]; exact hb2
  · exact (show Arr (W1.drewN (nq1 + nq)) _ zs from HA1.out).grown hg2 HB1.out (by simp) (by simp) (by simp)
  · rw [HL.out]; omega
set_option maxHeartbeats 1000000 in
theorem lwNext_end (g : Nat) (n : Int) (zs : List Int) (w : World) (a : Option Addr) (cap k : Nat) (st : Int) (hb : w.heap[g]? = some (.cells #[.slice a zs.length cap, .int .i64 (k : Int), .int .u64 st] 25)) (harr : Arr w a zs)
    (hk : k = zs.length) (hs0 : 0 ≤ st) (hs1 : st ≤ 18446744073709551615) (hn : 0 < n) (hn1 : n ≤ 9223372036854775807) (hl : zs.length ≤ 2097152) :
    Calls Tryd.prog 5 #[.pointer (some ⟨g, 0, none⟩), .int .i64 n] w fun e w' => ∃ r : Int, e = .returned (.int .i64 r) ∧ 0 ≤ r ∧ r < n ∧ w.grownBy w' (some g) ∧ Src w' g 25 zs := by
  obtain ⟨c0, c1, c2, hf⟩ := src_cells hb
  have HB := hide hb
  have HA := hide harr
  clear hb harr
  have hkl : ¬ (k : Int) < (zs.length : Int) := by omega
  generalize hlen : zs.length = len at *
  have HL := hide hlen
  clear hlen
  have HK := hide hk
  clear hk
  go_enter Tryd.func5, Tryd.ntmps5
  go_wp2_with fail
  have hs2 := wrap_u64_bd (IntKind.u64.wrap (st * 6364136223846793005) + 1442695040888963407)
  generalize IntKind.u64.wrap (IntKind.u64.wrap (st * 6364136223846793005) + 1442695040888963407) = s1 at *
  obtain ⟨hb1, hg1⟩ := src_set (j := 2) (.int .u64 s1) HB.out
  have hb1' : (w.setCell ⟨g, 2, none⟩ (.int .u64 s1)).heap[g]? = some (.cells #[.slice a len cap, .int .i64 (k : Int), .int .u64 s1] 25) := hb1
  have HA1 := hide (HA.out.grown hg1 HB.out (by simp) (by simp) (by simp))
  clear hb1 c0 c1 c2 hf
  generalize w.setCell ⟨g, 2, none⟩ (.int .u64 s1) = W1 at *
  obtain ⟨c0, c1, c2, hf⟩ := src_cells hb1'
  have HB1 := hide hb1'
  clear hb1'
  go_quiet (fail)
  go_wp2_with fail
  go_ret
  have hr := rem_bd' (x := s1 / 8589934592) hn hn1
  refine ⟨_, rfl, hr.1, hr.2, grown_drewN hg1 nq, a, cap, (k : Int), s1, ?_, HA1.out, by omega, ?_, hs2.1, hs2.2⟩
  · rw [HL.out]; exact HB1.out
  · have h1 := HK.out; have h2 := HL.out; omega
theorem lwNext_walk (g : Nat) (n : Int) (zs : List Int) (w : World) (h : Src w g 25 zs) (hn : 0 < n) (hn1 : n ≤ 9223372036854775807) (hl : zs.length ≤ 2097152) :
    Calls Tryd.prog 5 #[.pointer (some ⟨g, 0, none⟩), .int .i64 n] w fun e w' => ∃ r : Int, e = .returned (.int .i64 r) ∧ 0 ≤ r ∧ r < n ∧ w.grownBy w' (some g) ∧ Src w' g 25 zs := by
  obtain ⟨a, cap, pos, st, hb, harr, hp0, hp1, hs0, hs1⟩ := h
  obtain ⟨k, rfl⟩ := Int.eq_ofNat_of_zero_le hp0
  by_cases hk : k < zs.length
  · exact lwNext_more g n zs w a cap k st hb harr hk hs0 hs1 hn hn1 hl
  · exact lwNext_end g n zs w a cap k st hb harr (by omega) hs0 hs1 hn hn1 hl

set_option maxHeartbeats 1000000 in
theorem lwBegin_walk (a : Option Addr) (n cap : Nat) (salt : Int) (zs : List Int) (w : World) (hn : zs.length = n) (ha : Arr w a zs) (hs0 : 0 ≤ salt) (hs1 : salt ≤ 1000) (hm : n ≤ 2097152) :
    Calls Tryd.prog 4 #[.slice a n cap, .int .u64 salt] w fun e w' => ∃ st : Int, e = .returned (.agg #[.slice a n cap, .int .i64 0, .int .u64 st]) ∧ 0 ≤ st ∧ st ≤ 18446744073709551615 ∧ Below w.heap.size w w' := by
  have HN := hide hn
  have HA := hide ha
  clear hn ha
  go_enter Tryd.func4, Tryd.ntmps4
  go_wp2_with fail
  have hmade := hide (made_start w 25 a n cap (88172645463325252 + salt * 977) (by omega) (by omega))
  generalize (w.alloc (.cells #[.slice none 0 0, .int .i64 0, .int .u64 0] 25)).alloc (.cells #[.slice a n cap, .int .i64 0, .int .u64 (88172645463325252 + salt * 977)] 25) = W at *
  go_loopw [6] (fun t w2 => ∃ k : Nat, k ≤ n ∧ t = .int .i64 k ∧ Hid (Made w w2 25 a n cap)) (fun t _ => n - (intOf t).toNat)
  case atStart => exact ⟨0, Nat.zero_le _, rfl, hmade⟩
  case round =>
    obtain ⟨k, hk, rfl, HM⟩ := hrel
    obtain ⟨hb, hz, hr, st, hs0, hs1, hg⟩ := HM.out
    by_cases hlt : k < n
    · obtain ⟨b, off, rfl, hbs, hc0⟩ := HA.out.2 k (by rw [HN.out]; exact hlt)
      have hc : wr.cell? ⟨b, off + k, none⟩ = some (.int .u8 (zs.getD k 0)) := by rw [hb.cell (p := ⟨b, off + k, none⟩) hbs]; exact hc0
      clear hc0
      have hz := getD_bd HA.out.1 k
      generalize zs.getD k 0 = z at *
      obtain ⟨c0, c1, c2, hf⟩ := src_cells hg
      clear hr hg hmade c0 c1
      have hx := xor_u64_bd st z
      go_wp2
      go_region
      go_wp2
      have hw := wrap_u64_bd (bits .xor .u64 st z * 1099511628211)
      exact ⟨⟨k + 1, by omega, by go_num, hide (made_set HM.out _ hw.1 hw.2)⟩, by simp [intOf]; omega⟩
    · obtain ⟨c0, c1, c2, hf⟩ := src_cells hg
      obtain ⟨d0, d1, d2, hf2⟩ := src_cells hr
      clear hr hg hmade
      go_wp2
      exact bodyPost_ret (v := .agg #[.slice a n cap, .int .i64 0, .int .u64 st]) (by simp [results, Tryd.results4, go_sem, d0, d1, d2]) rfl ⟨st, rfl, hs0, hs1, ((hb.setCell (Nat.le_refl _) _).setCell (Nat.le_refl _) _).setCell (Nat.le_refl _) _⟩

/-- What the walk is told of a slice of integers that came in: nil, or a row of 'cap' cells, the first 'len' of them its elements. -/
def IsRow (k : IntKind) (w : World) (a : Option Addr) (len cap : Nat) (zs : List Int) : Prop :=
  (a = none ∧ len = 0 ∧ cap = 0 ∧ zs = []) ∨
  ∃ x, a = some x ∧ len ≤ cap ∧ cap ≤ maxLen ∧ zs.length = cap ∧ (∀ i, i < zs.length → w.cell? (x.add i) = some (.int k (zs.getD i 0))) ∧ ∀ n ∈ zs, (Lit.int k n).wf = true
theorem cell_lt {w : World} {b o : Nat} {v : Value} (h : w.cell? ⟨b, o, none⟩ = some v) : b < w.heap.size := by
  by_cases hb : b < w.heap.size
  · exact hb
  · exfalso
    unfold World.cell? at h
    simp [Array.getElem?_eq_none (Nat.le_of_not_lt hb)] at h
theorem IsRow.arr {w : World} {a : Option Addr} {len cap : Nat} {zs : List Int} (h : IsRow .u8 w a len cap zs) : ∃ ys : List Int, ys.length = len ∧ Arr w a ys := by
  rcases h with ⟨rfl, rfl, rfl, rfl⟩ | ⟨x, rfl, hl, hm, hz, hcell, hwz⟩
  · exact ⟨[], rfl, by simp, fun j hj => by simp at hj⟩
  · refine ⟨zs.take len, by simp; omega, ?_, ?_⟩
    · intro z hz'
      have := hwz z (List.mem_of_mem_take hz')
      simpa [Lit.wf, IntKind.min, IntKind.max, IntKind.signed, IntKind.bits] using this
    · intro j hj
      have hj' : j < len := by simp at hj; omega
      obtain ⟨b, off, rfl, hc⟩ := ints_at hcell (by omega)
      have h1 := hc j (by omega)
      refine ⟨b, off, rfl, cell_lt h1, ?_⟩
      rw [h1, List.getD_eq_getElem?_getD, List.getD_eq_getElem?_getD, List.getElem?_take, if_pos hj']
end Go.Proofs.YtmgjagajcmeikalDoor
