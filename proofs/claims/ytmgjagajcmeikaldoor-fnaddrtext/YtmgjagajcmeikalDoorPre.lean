/-
Contracts of functions of this seat.
-/
import Derived.Test.YtmgjagajcmeikalDoorRows
import Derived.WalkKit
import Derived.ProofKit
import Derived.OpenShut
import Derived.Test.YtmgjagajcmeikalDoorShi
import Derived.Shelf.Strconv.Itoa4
namespace Go.Proofs.YtmgjagajcmeikalDoor
open Go.ChangeShapes Go.WideShapes Go.ChangeAt Go.RowKit
set_option linter.unusedVariables false
def showP (a b : Int) : ByteArray := showA a ++ (⟨#[47]⟩ : ByteArray) ++ ⟨decL b⟩
set_option maxHeartbeats 1000000 in
theorem specShowP_no (a b : Int) (w : World) (h : prefB a b = false) :
    Calls Tryd.prog 24 #[.agg #[.int .i64 a, .int .i64 b]] w fun e w' => e = .returned (.tuple #[.string ⟨#[]⟩, .int .i64 1]) ∧ Below w.heap.size w w' := by
  go_enter Tryd.func24, Tryd.ntmps24
  go_wp2_with fail
  obtain ⟨hbW, hc0, hc1⟩ := box_facts w (.int .i64 a) (.int .i64 b) 36
  generalize w.alloc (.cells #[.int .i64 a, .int .i64 b] 36) = W at *
  refine (specPrefixOK_walk a b _).mono ?_
  rw [h]
  rintro e w1 ⟨rfl, hb1⟩
  go_wp2_with fail
  go_ret2
  exact ⟨rfl, hbW.trans (hb1.mono hbW.size)⟩
set_option maxHeartbeats 1000000 in
theorem specShowP_yes (a b : Int) (w : World) (h : prefB a b = true) :
    Calls Tryd.prog 24 #[.agg #[.int .i64 a, .int .i64 b]] w fun e w' => e = .returned (.tuple #[.string (showP a b), .int .i64 0]) ∧ Below w.heap.size w w' := by
  obtain ⟨h0, h1, ha, hm⟩ := prefB_iff.1 h
  have z1 := showA_size a
  have z2 := decL_size (n := b)
  have c1 := fun w => specShowA_yes a w ha
  have c2 := fun w => dec_walk b w h0 (by omega)
  have HE : Hid (showP a b = showA a ++ (⟨#[47]⟩ : ByteArray) ++ ⟨decL b⟩) := rfl
  generalize (⟨decL b⟩ : ByteArray) = t2 at *
  generalize showA a = t1 at *
  have C1 := hide c1
  have C2 := hide c2
  clear c1 c2 hm
  go_enter Tryd.func24, Tryd.ntmps24
  go_wp2_with fail
  obtain ⟨hbW, hc0, hc1⟩ := box_facts w (.int .i64 a) (.int .i64 b) 36
  have hsW : w.heap.size < (w.alloc (.cells #[.int .i64 a, .int .i64 b] 36)).heap.size := by rw [World.size_alloc]; omega
  generalize w.alloc (.cells #[.int .i64 a, .int .i64 b] 36) = W at *
  refine (specPrefixOK_walk a b _).mono ?_
  rw [h]
  rintro e w1 ⟨rfl, hb1⟩
  have g0 : w1.cell? ⟨w.heap.size, 0, none⟩ = some (.int .i64 a) := by rw [hb1.cell (p := ⟨w.heap.size, 0, none⟩) hsW]; exact hc0
  have g1 : w1.cell? ⟨w.heap.size, 1, none⟩ = some (.int .i64 b) := by rw [hb1.cell (p := ⟨w.heap.size, 1, none⟩) hsW]; exact hc1
  have s1 := hb1.size
  clear hc0 hc1 h
  go_wp2_with fail
  refine (C1.out _).mono ?_
  rintro e w2 ⟨rfl, hb2⟩
  have k1 : w2.cell? ⟨w.heap.size, 1, none⟩ = some (.int .i64 b) := by rw [hb2.cell (p := ⟨w.heap.size, 1, none⟩) (by show w.heap.size < w1.heap.size; omega)]; exact g1
  clear g0 g1
  go_wp2_with fail
  refine (C2.out _).mono ?_
  rintro e w3 ⟨rfl, hb3⟩
  go_wp2_with fail
  go_ret2
  have sW := hbW.size
  have s2 := hb2.size
  exact ⟨by rw [HE.out]; rfl, ((hbW.trans (hb1.mono (by omega))).trans (hb2.mono (by omega))).trans (hb3.mono (by omega))⟩

theorem dd_fin : ∀ n : Fin 100, Lib.decDigits n.val = (decL (n.val : Int)).toList := by decide +kernel
theorem formatInt_walk (i : Int) (h0 : 0 ≤ i) (h1 : i < 100) (w : World) :
    Calls Tryd.prog 32 #[.int .i64 i, .int .i64 10] w fun e w' => e = .returned (.string ⟨decL i⟩) ∧ w' = w := by
  obtain ⟨n, rfl⟩ := Int.eq_ofNat_of_zero_le h0
  have h := Any.strconv_FormatInt_10_small Tryd.lays173 n (by omega) w
  have e := dd_fin ⟨n, by omega⟩
  simp only at e
  rw [e] at h
  exact h

set_option maxHeartbeats 1000000 in
theorem showPI_no (a b : Int) (w : World) (h : prefB a b = false) :
    Calls Tryd.prog 13 #[.agg #[.int .i64 a, .int .i64 b]] w fun e w' => e = .returned (.tuple #[.string ⟨#[]⟩, .int .i64 1]) ∧ Below w.heap.size w w' := by
  go_enter Tryd.func13, Tryd.ntmps13
  go_wp2_with fail
  obtain ⟨hbW, hc0, hc1⟩ := box_facts w (.int .i64 a) (.int .i64 b) 36
  generalize w.alloc (.cells #[.int .i64 a, .int .i64 b] 36) = W at *
  refine (valid_walk a b _).mono ?_
  rw [h]
  rintro e w1 ⟨rfl, hb1⟩
  go_wp2_with fail
  go_ret2
  exact ⟨rfl, hbW.trans (hb1.mono hbW.size)⟩
set_option maxHeartbeats 1000000 in
theorem showPI_yes (a b : Int) (w : World) (h : prefB a b = true) (ht : Lib.TabBelow Tryd.prog w.heap.size w "internal/strconv.uint64pow10" .u64 Lib.pow10Tab) :
    Calls Tryd.prog 13 #[.agg #[.int .i64 a, .int .i64 b]] w fun e w' => e = .returned (.tuple #[.string (showP a b), .int .i64 0]) ∧ Below w.heap.size w w' := by
  obtain ⟨h0, h1, ha, hm⟩ := prefB_iff.1 h
  have HT := hide ht
  have z1 := showA_size a
  have z2 := decL_size (n := b)
  have c1 := fun w => showAI_yes a w ha
  have c2 := fun w => formatInt_walk b h0 (by omega) w
  have HE : Hid (showP a b = showA a ++ (⟨#[47]⟩ : ByteArray) ++ ⟨decL b⟩) := rfl
  generalize (⟨decL b⟩ : ByteArray) = t2 at *
  generalize showA a = t1 at *
  have C1 := hide c1
  have C2 := hide c2
  clear c1 c2 hm ht
  go_enter Tryd.func13, Tryd.ntmps13
  go_wp2_with fail
  obtain ⟨hbW, hc0, hc1⟩ := box_facts w (.int .i64 a) (.int .i64 b) 36
  have hsW : w.heap.size < (w.alloc (.cells #[.int .i64 a, .int .i64 b] 36)).heap.size := by rw [World.size_alloc]; omega
  generalize w.alloc (.cells #[.int .i64 a, .int .i64 b] 36) = W at *
  refine (valid_walk a b _).mono ?_
  rw [h]
  rintro e w1 ⟨rfl, hb1⟩
  have g0 : w1.cell? ⟨w.heap.size, 0, none⟩ = some (.int .i64 a) := by rw [hb1.cell (p := ⟨w.heap.size, 0, none⟩) hsW]; exact hc0
  have g1 : w1.cell? ⟨w.heap.size, 1, none⟩ = some (.int .i64 b) := by rw [hb1.cell (p := ⟨w.heap.size, 1, none⟩) hsW]; exact hc1
  have s1 := hb1.size
  clear hc0 hc1 h
  go_wp2_with fail
  refine (C1.out _ (tab_later HT.out (hbW.trans (hb1.mono hbW.size)) (by omega))).mono ?_
  rintro e w2 ⟨rfl, hb2⟩
  have k1 : w2.cell? ⟨w.heap.size, 1, none⟩ = some (.int .i64 b) := by rw [hb2.cell (p := ⟨w.heap.size, 1, none⟩) (by show w.heap.size < w1.heap.size; omega)]; exact g1
  clear g0 g1
  go_wp2_with fail
  refine (C2.out _).mono ?_
  rintro e w3 ⟨rfl, hb3⟩
  rw [hb3]
  go_wp2_with fail
  go_ret2
  have sW := hbW.size
  have s2 := hb2.size
  exact ⟨by rw [HE.out]; rfl, (hbW.trans (hb1.mono (by omega))).trans (hb2.mono (by omega))⟩
end Go.Proofs.YtmgjagajcmeikalDoor
