/-
Contracts of functions of this seat.
-/
import Derived.Test.YtjojeplffefnpaaDoorRows
import Derived.WalkKit
import Derived.ProofKit
import Derived.OpenShut
import Derived.Test.YtjojeplffefnpaaDoorShi
import Derived.RegionTactic
import Derived.Deep.RegionWith
import Derived.Shelf.Strconv.Itoa4
namespace Go.Proofs.YtjojeplffefnpaaDoor
open Go.ChangeShapes Go.WideShapes Go.ChangeAt Go.RowKit
set_option linter.unusedVariables false
set_option maxRecDepth 100000
theorem eqPref (a b c d : Int) (w : World) : (Op.equalIn 10000 42 (.agg #[.int .i64 a, .int .i64 b]) (.agg #[.int .i64 c, .int .i64 d])).run Tryd.prog w = .ok (a == c && b == d) w := by
  have u3 := Tryd.underlying2
  have a3 := Tryd.isAgg2
  have z3 := Tryd.sizeOf2
  have hS : Tryd.prog.underlying 42 = some (.struct (Tryd.prog.fieldsOf 42)) := by kernel_rfl
  rw [show (10000 : Nat) = 9999 + 1 from rfl, run_equalIn_agg w 9999 42 _ _ hS (by kernel_rfl)]
  simp only [Program.fieldsOf, Tryd.underlying42]
  go_simp
  by_cases h1 : a = c <;> by_cases h2 : b = d <;> simp [h1, h2]
theorem hostPart_walk (b : Int) (h0 : 0 ≤ b) (h1 : b ≤ 32) (w : World) :
    Calls Tryd.prog 107 #[.int .i64 b] w fun e w' => e = .returned (.int .i64 (sz b - 1)) ∧ w' = w := by
  have HE := hide (host_eq b h0 h1)
  go_enter Tryd.func107, Tryd.ntmps107
  go_wp2
  go_ret
  exact ⟨ret_int (by rw [← HE.out]), rfl⟩
theorem around_walk (a b : Int) (ha : 0 ≤ a) (ha1 : a ≤ 4294967295) (h0 : 0 ≤ b) (h1 : b ≤ 32) (w : World) :
    Calls Tryd.prog 86 #[.int .i64 a, .int .i64 b] w fun e w' => e = .returned (.agg #[.int .i64 (a - a % sz b), .int .i64 b]) ∧ Below w.heap.size w w' := by
  have HE := andNot_sz a b ha ha1
  have hp := sz_pos b
  go_enter Tryd.func86, Tryd.ntmps86
  go_wp2_with (go_at_call 107; refine (hostPart_walk _ h0 h1 _).mono ?_; rintro e w' ⟨rfl, rfl⟩)
  exact bodyPost_ret (v := .agg #[.int .i64 (a - a % sz b), .int .i64 b]) (by simp [results, Tryd.results86, go_sem]) rfl ⟨rfl, (Below.refl _ _).alloc (Nat.le_refl _) _⟩
theorem prefB_eq {a b : Int} (h0 : 0 ≤ b) (h1 : b ≤ 32) (h2 : adrB a = true) : prefB a b = (a == a - a % sz b) := by
  rw [prefB_true h0 h1 h2, Bool.eq_iff_iff]; simp; omega
set_option maxHeartbeats 2000000 in
theorem valid_yes (a b : Int) (w : World) (h0 : 0 ≤ b) (h1 : b ≤ 32) (ha : adrB a = true) :
    Calls Tryd.prog 57 #[.agg #[.int .i64 a, .int .i64 b]] w fun e w' => e = .returned (.bool (prefB a b)) ∧ Below w.heap.size w w' := by
  have hab := adrB_iff.1 ha
  have HP := hide (prefB_eq h0 h1 ha)
  have heq := eqPref a b (a - a % sz b) b
  go_enter Tryd.func57, Tryd.ntmps57
  go_wp2_with fail
  go_region_held3 (fun w' => Below w.heap.size w w' ∧ w.heap.size < w'.heap.size ∧ w'.cell? ⟨w.heap.size, 0, none⟩ = some (.int .i64 a) ∧ w'.cell? ⟨w.heap.size, 1, none⟩ = some (.int .i64 b))
    (first | exact boxS_start w _ _ _ | assumption | exact boxS_below (by assumption) (by assumption))
    (first
      | (go_at_call 34; refine (isAddr_walk _ _).mono ?_; rintro e w' ⟨rfl, rfl⟩)
      | (go_at_call 86; refine (around_walk _ _ hab.1 hab.2 h0 h1 _).mono ?_; rintro e w' ⟨rfl, hbel⟩))
  go_wp2
  go_ret
  refine ⟨ret_bool HP.out.symm, ?_⟩
  rename_i hh
  exact hh.1
set_option maxHeartbeats 1000000 in
theorem valid_neg (a b : Int) (w : World) (h0 : ¬ 0 ≤ b) :
    Calls Tryd.prog 57 #[.agg #[.int .i64 a, .int .i64 b]] w fun e w' => e = .returned (.bool (prefB a b)) ∧ Below w.heap.size w w' := by
  have HP := hide (prefB_neg (a := a) h0)
  have hd : decide (0 ≤ b) = false := by simpa using h0
  clear h0
  go_enter Tryd.func57, Tryd.ntmps57
  go_wp2_with fail
  go_quiet (fail)
  go_wp2
  go_ret
  exact ⟨ret_bool HP.out.symm, below_drewN ((Below.refl _ _).alloc (Nat.le_refl _) _) nq⟩
set_option maxHeartbeats 1000000 in
theorem valid_big (a b : Int) (w : World) (h0 : 0 ≤ b) (h1 : ¬ b ≤ 32) :
    Calls Tryd.prog 57 #[.agg #[.int .i64 a, .int .i64 b]] w fun e w' => e = .returned (.bool (prefB a b)) ∧ Below w.heap.size w w' := by
  have HP := hide (prefB_big (a := a) h1)
  have hd : decide (b ≤ 32) = false := by simpa using h1
  clear h1
  go_enter Tryd.func57, Tryd.ntmps57
  go_wp2_with fail
  go_quiet (fail)
  go_wp2
  go_ret
  exact ⟨ret_bool HP.out.symm, below_drewN ((Below.refl _ _).alloc (Nat.le_refl _) _) nq⟩
set_option maxHeartbeats 1000000 in
theorem valid_adr (a b : Int) (w : World) (h0 : 0 ≤ b) (h1 : b ≤ 32) (ha : adrB a = false) :
    Calls Tryd.prog 57 #[.agg #[.int .i64 a, .int .i64 b]] w fun e w' => e = .returned (.bool (prefB a b)) ∧ Below w.heap.size w w' := by
  have HP := hide (prefB_adr (b := b) ha)
  go_enter Tryd.func57, Tryd.ntmps57
  go_wp2_with fail
  go_quiet ((go_at_call 34; refine Calls.quiet_of_same (isAddr_walk _ _)))
  go_wp2
  go_ret
  exact ⟨ret_bool HP.out.symm, below_drewN ((Below.refl _ _).alloc (Nat.le_refl _) _) nq⟩
theorem valid_walk (a b : Int) (w : World) :
    Calls Tryd.prog 57 #[.agg #[.int .i64 a, .int .i64 b]] w fun e w' => e = .returned (.bool (prefB a b)) ∧ Below w.heap.size w w' := by
  by_cases h0 : 0 ≤ b
  · by_cases h1 : b ≤ 32
    · by_cases ha : adrB a = true
      · exact valid_yes a b w h0 h1 ha
      · exact valid_adr a b w h0 h1 (by simpa using ha)
    · exact valid_big a b w h0 h1
  · exact valid_neg a b w h0

theorem dd_fin : ∀ n : Fin 100, Lib.decDigits n.val = (decL (n.val : Int)).toList := by decide +kernel
theorem formatInt_walk (i : Int) (h0 : 0 ≤ i) (h1 : i < 100) (w : World) :
    Calls Tryd.prog 89 #[.int .i64 i, .int .i64 10] w fun e w' => e = .returned (.string ⟨decL i⟩) ∧ w' = w := by
  obtain ⟨n, rfl⟩ := Int.eq_ofNat_of_zero_le h0
  have h := Any.strconv_FormatInt_10_small Tryd.lays173 n (by omega) w
  have e := dd_fin ⟨n, by omega⟩
  simp only at e
  rw [e] at h
  exact h

set_option maxHeartbeats 1000000 in
theorem showPI_no (a b : Int) (w : World) (h : prefB a b = false) :
    Calls Tryd.prog 88 #[.agg #[.int .i64 a, .int .i64 b]] w fun e w' => e = .returned (.tuple #[.string ⟨#[]⟩, .int .i64 1]) ∧ Below w.heap.size w w' := by
  go_enter Tryd.func88, Tryd.ntmps88
  go_wp2_with fail
  obtain ⟨hbW, hc0, hc1⟩ := box_facts w (.int .i64 a) (.int .i64 b) 42
  generalize w.alloc (.cells #[.int .i64 a, .int .i64 b] 42) = W at *
  refine (valid_walk a b _).mono ?_
  rw [h]
  rintro e w1 ⟨rfl, hb1⟩
  go_wp2_with fail
  go_ret2
  exact ⟨rfl, hbW.trans (hb1.mono hbW.size)⟩
set_option maxHeartbeats 1000000 in
theorem showPI_yes (a b : Int) (w : World) (h : prefB a b = true) (ht : Lib.TabBelow Tryd.prog w.heap.size w "internal/strconv.uint64pow10" .u64 Lib.pow10Tab) :
    Calls Tryd.prog 88 #[.agg #[.int .i64 a, .int .i64 b]] w fun e w' => e = .returned (.tuple #[.string (showP a b), .int .i64 0]) ∧ Below w.heap.size w w' := by
  obtain ⟨h0, h1, ha, hm⟩ := prefB_iff.1 h
  have HT := hide ht
  have z1 := showA_size a
  have z2 := decL_size (n := b)
  have c1 := fun w => showAI_yes a w ha
  have c2 := fun w => formatInt_walk b h0 (by omega) w
  have HE : Hid (showP a b = showA a ++ (⟨#[47]⟩ : ByteArray) ++ ⟨decL b⟩) := rfl
  generalize (⟨decL b⟩ : ByteArray) = t2 at *
  generalize showA a = t1 at *
  have C1 := hide c1
  have C2 := hide c2
  clear c1 c2 hm ht
  go_enter Tryd.func88, Tryd.ntmps88
  go_wp2_with fail
  obtain ⟨hbW, hc0, hc1⟩ := box_facts w (.int .i64 a) (.int .i64 b) 42
  have hsW : w.heap.size < (w.alloc (.cells #[.int .i64 a, .int .i64 b] 42)).heap.size := by rw [World.size_alloc]; omega
  generalize w.alloc (.cells #[.int .i64 a, .int .i64 b] 42) = W at *
  refine (valid_walk a b _).mono ?_
  rw [h]
  rintro e w1 ⟨rfl, hb1⟩
  have g0 : w1.cell? ⟨w.heap.size, 0, none⟩ = some (.int .i64 a) := by rw [hb1.cell (p := ⟨w.heap.size, 0, none⟩) hsW]; exact hc0
  have g1 : w1.cell? ⟨w.heap.size, 1, none⟩ = some (.int .i64 b) := by rw [hb1.cell (p := ⟨w.heap.size, 1, none⟩) hsW]; exact hc1
  have s1 := hb1.size
  clear hc0 hc1 h
  go_wp2_with fail
  refine (C1.out _ (tab_later HT.out (hbW.trans (hb1.mono hbW.size)) (by omega))).mono ?_
  rintro e w2 ⟨rfl, hb2⟩
  have k1 : w2.cell? ⟨w.heap.size, 1, none⟩ = some (.int .i64 b) := by rw [hb2.cell (p := ⟨w.heap.size, 1, none⟩) (by show w.heap.size < w1.heap.size; omega)]; exact g1
  clear g0 g1
  go_wp2_with fail
  refine (C2.out _).mono ?_
  rintro e w3 ⟨rfl, hb3⟩
  rw [hb3]
  go_wp2_with fail
  go_ret2
  have sW := hbW.size
  have s2 := hb2.size
  exact ⟨by rw [HE.out]; rfl, (hbW.trans (hb1.mono (by omega))).trans (hb2.mono (by omega))⟩
end Go.Proofs.YtjojeplffefnpaaDoor
