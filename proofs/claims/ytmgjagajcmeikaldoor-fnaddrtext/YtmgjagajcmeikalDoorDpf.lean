/-
Contracts of functions of this seat.
-/
import Derived.Test.YtmgjagajcmeikalDoorRows
import Derived.WalkKit
import Derived.ProofKit
import Derived.OpenShut
import Derived.Test.YtmgjagajcmeikalDoorPfx
import Derived.Test.YtmgjagajcmeikalDoorBnd
import Derived.Test.YtmgjagajcmeikalDoorPre
namespace Go.Proofs.YtmgjagajcmeikalDoor
open Go.ChangeShapes Go.WideShapes Go.ChangeAt Go.RowKit
set_option linter.unusedVariables false
set_option maxHeartbeats 1000000 in
theorem l01Begin_walk (a : Option Addr) (n cap : Nat) (zs : List Int) (w : World) (hn : zs.length = n) (ha : Arr w a zs) (hm : n ≤ 2097152) :
    Calls Tryd.prog 23 #[.slice a n cap] w fun e w' => ∃ st : Int, e = .returned (.agg #[.slice a n cap, .int .i64 0, .int .u64 st]) ∧ 0 ≤ st ∧ st ≤ 18446744073709551615 ∧ Below w.heap.size w w' := by
  have HN := hide hn
  have HA := hide ha
  clear hn ha
  go_enter Tryd.func23, Tryd.ntmps23
  go_wp2_with fail
  have hmade := hide (made_start w 57 a n cap 1469598103934665603 (by omega) (by omega))
  generalize (w.alloc (.cells #[.slice none 0 0, .int .i64 0, .int .u64 0] 57)).alloc (.cells #[.slice a n cap, .int .i64 0, .int .u64 1469598103934665603] 57) = W at *
  go_loopw [4] (fun t w2 => ∃ k : Nat, k ≤ n ∧ t = .int .i64 k ∧ Hid (Made w w2 57 a n cap)) (fun t _ => n - (intOf t).toNat)
  case atStart => exact ⟨0, Nat.zero_le _, rfl, hmade⟩
  case round =>
    obtain ⟨k, hk, rfl, HM⟩ := hrel
    obtain ⟨hb, hz, hr, st, hs0, hs1, hg⟩ := HM.out
    by_cases hlt : k < n
    · obtain ⟨b, off, rfl, hbs, hc0⟩ := HA.out.2 k (by rw [HN.out]; exact hlt)
      have hc : wr.cell? ⟨b, off + k, none⟩ = some (.int .u8 (zs.getD k 0)) := by rw [hb.cell (p := ⟨b, off + k, none⟩) hbs]; exact hc0
      clear hc0
      have hz := getD_bd HA.out.1 k
      generalize zs.getD k 0 = z at *
      obtain ⟨c0, c1, c2, hf⟩ := src_cells hg
      clear hr hg hmade c0 c1
      have hx := xor_u64_bd st z
      go_wp2
      go_region
      go_wp2
      have hw := wrap_u64_bd (bits .xor .u64 st z * 1099511628211)
      exact ⟨⟨k + 1, by omega, by go_num, hide (made_set HM.out _ hw.1 hw.2)⟩, by simp [intOf]; omega⟩
    · obtain ⟨c0, c1, c2, hf⟩ := src_cells hg
      obtain ⟨d0, d1, d2, hf2⟩ := src_cells hr
      clear hr hg hmade
      go_wp2
      exact bodyPost_ret (v := .agg #[.slice a n cap, .int .i64 0, .int .u64 st]) (by simp [results, Tryd.results23, go_sem, d0, d1, d2]) rfl ⟨st, rfl, hs0, hs1, ((hb.setCell (Nat.le_refl _) _).setCell (Nat.le_refl _) _).setCell (Nat.le_refl _) _⟩

theorem srcA_new {w : World} {t n cap : Nat} {a : Option Addr} {st : Int} (h0 : 0 ≤ st) (h1 : st ≤ 18446744073709551615) :
    SrcA (w.alloc (.cells #[.slice a n cap, .int .i64 0, .int .u64 st] t)) w.heap.size t n a cap :=
  ⟨0, st, heap_alloc_new w _, Int.le_refl _, by omega, h0, h1⟩
def spT (a b : Int) : ByteArray := if prefB a b then showP a b else ⟨#[]⟩
def spK (a b : Int) : Int := if prefB a b then 0 else 1
theorem spT_size (a b : Int) : (spT a b).size ≤ 100 := by
  unfold spT
  split
  · unfold showP
    rw [ByteArray.size_append, ByteArray.size_append]
    have h1 := showA_size a
    have h2 := decL_size (n := b)
    have h3 : (⟨#[47]⟩ : ByteArray).size = 1 := rfl
    omega
  · show 0 ≤ 100; omega
theorem specSP (a b : Int) (w : World) : Calls Tryd.prog 24 #[.agg #[.int .i64 a, .int .i64 b]] w fun e w' => e = .returned (.tuple #[.string (spT a b), .int .i64 (spK a b)]) ∧ Below w.heap.size w w' := by
  cases h : prefB a b with
  | true => have := specShowP_yes a b w h; unfold spT spK; rw [h]; exact this
  | false => have := specShowP_no a b w h; unfold spT spK; rw [h]; exact this
theorem implSP (a b : Int) (w : World) (ht : Lib.TabBelow Tryd.prog w.heap.size w "internal/strconv.uint64pow10" .u64 Lib.pow10Tab) : Calls Tryd.prog 13 #[.agg #[.int .i64 a, .int .i64 b]] w fun e w' => e = .returned (.tuple #[.string (spT a b), .int .i64 (spK a b)]) ∧ Below w.heap.size w w' := by
  cases h : prefB a b with
  | true => have := showPI_yes a b w h ht; unfold spT spK; rw [h]; exact this
  | false => have := showPI_no a b w h; unfold spT spK; rw [h]; exact this
set_option maxHeartbeats 1000000 in
theorem drawRead_walk (a : Option Addr) (n cap : Nat) (zs : List Int) (w : World) (hn : zs.length = n) (ha : Arr w a zs) (hm : n ≤ 2097152) :
    Calls Tryd.prog 10 #[.slice a n cap] w fun e w' => ∃ r : ByteArray, e = .returned (.string r) ∧ r.size ≤ 300 ∧ Below w.heap.size w w' := by
  subst hn
  have HA := hide ha
  clear ha
  go_enter Tryd.func10, Tryd.ntmps10
  go_wp2_with fail
  refine (l01Begin_walk _ _ _ zs _ rfl HA.out hm).mono ?_
  rintro e w1 ⟨st, rfl, hs0, hs1, hb1⟩
  have hba := (Below.refl w1.heap.size w1).alloc (Nat.le_refl _) (.cells #[.slice a zs.length cap, .int .i64 0, .int .u64 st] 57)
  have HS1 := hide (srcA_new (w := w1) (t := 57) (n := zs.length) (cap := cap) (a := a) hs0 hs1)
  have HA1 := hide ((HA.out.below hb1 (Nat.le_refl _)).below hba (Nat.le_refl _))
  have hs1 := hb1.size
  have hbW : Below w.heap.size w (w1.alloc (.cells #[.slice a zs.length cap, .int .i64 0, .int .u64 st] 57)) := hb1.trans (hba.mono hs1)
  go_wp2_with fail
  generalize w1.alloc (.cells #[.slice a zs.length cap, .int .i64 0, .int .u64 st] 57) = W1 at *
  refine (l02Prefix_walk _ zs _ a cap HA1.out HS1.out hm).mono ?_
  rintro e w2 ⟨x, b, rfl, x0, x1, b0, b1, hn2, hs2⟩
  have hb2 : Below w.heap.size w w2 := hbW.trans (below_grown hs1 hbW.size hn2)
  have HS2 := hide hs2
  have HA2 := hide (HA1.out.srcA HS1.out hn2)
  go_wp2_with fail
  refine (specSP x b _).mono ?_
  rintro e w3 ⟨rfl, hb3⟩
  have HS3 := hide (HS2.out.below hb3 (Nat.le_refl _))
  have HA3 := hide (HA2.out.below hb3 (Nat.le_refl _))
  have hsz := spT_size x b
  have hb03 : Below w.heap.size w w3 := hb2.trans (hb3.mono hb2.size)
  generalize spT x b = t at *
  go_wp2_with fail
  refine (bend_walk _ zs _ a cap t hsz HA3.out HS3.out hm).mono ?_
  rintro e w4 ⟨r, rfl, hr, hn4⟩
  go_wp2_with fail
  go_ret
  exact ⟨r, rfl, hr, hb03.trans (below_grown hs1 hb03.size hn4)⟩
end Go.Proofs.YtmgjagajcmeikalDoor
