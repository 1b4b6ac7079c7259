/-
Contracts of functions of this seat.
-/
import Derived.Test.YtgegnkboibgbgaaRows
import Derived.WalkKit
import Derived.ProofKit
import Derived.OpenShut
import Derived.Test.YtgegnkboibgbgaaPrf
namespace Go.Proofs.Ytgegnkboibgbgaa
open Go.ChangeShapes Go.WideShapes Go.ChangeAt Go.RowKit
set_option linter.unusedVariables false
set_option maxRecDepth 100000
/-- The j-th of n bytes of v, the highest first. -/
def byteOf (v : Int) (n j : Nat) : Int := v / 2 ^ (8 * (n - 1 - j)) % 256
theorem byteOf_bd (v : Int) (n j : Nat) : 0 ≤ byteOf v n j ∧ byteOf v n j ≤ 255 := by unfold byteOf; omega

theorem isAddr_walk (a : Int) (w : World) :
    Calls Try.prog 76 #[.int .i64 a] w fun e w' => e = .returned (.bool (adrB a)) ∧ w' = w := by
  by_cases h1 : 0 ≤ a
  · by_cases h2 : a ≤ 4294967295
    · have e := hide (adrB_iff.2 ⟨h1, h2⟩)
      go_enter Try.func76, Try.ntmps76
      go_wp2
      go_ret
      exact ⟨ret_bool e.out.symm, rfl⟩
    · have e : Hid (adrB a = false) := hide (by unfold adrB; simp; omega)
      go_enter Try.func76, Try.ntmps76
      go_wp2
      go_ret
      exact ⟨ret_bool e.out.symm, rfl⟩
  · have e : Hid (adrB a = false) := hide (by unfold adrB; simp; omega)
    go_enter Try.func76, Try.ntmps76
    go_wp2
    go_ret
    exact ⟨ret_bool e.out.symm, rfl⟩

theorem putNumber_walk (g n : Nat) (v : Int) (e : Nat) (xs0 : List Value) (w : World) (hn : n ≤ 8) (hown : w.ownsRow g e 1 (.slice (some ⟨g, 0, none⟩) n n) n xs0) :
    Calls Try.prog 83 #[.slice (some ⟨g, 0, none⟩) n n, .int .i64 v] w fun e' w' => e' = .returned (.tuple #[]) ∧ w.grownBy w' (some g) ∧
      ∃ xs, w'.ownsRow g e 1 (.slice (some ⟨g, 0, none⟩) n n) n xs ∧ ∀ j, j < n → xs[j]? = some (.int .u8 (byteOf v n j)) := by
  have HO := hide hown
  clear hown
  go_enter Try.func83, Try.ntmps83
  go_wp2_with fail
  go_loopw [7] (fun t w2 => ∃ (k : Nat) (xs : List Value), k ≤ n ∧ t = .int .i64 k ∧ w.grownBy w2 (some g) ∧ Hid (w2.ownsRow g e 1 (.slice (some ⟨g, 0, none⟩) n n) n xs) ∧ Hid (∀ j, n - k ≤ j → j < n → xs[j]? = some (.int .u8 (byteOf v n j)))) (fun t _ => n - (intOf t).toNat)
  case atStart => exact ⟨0, xs0, Nat.zero_le _, rfl, World.grownBy.refl _ _, HO, hide (fun j h1 h2 => absurd h2 (by omega))⟩
  case round =>
    obtain ⟨k, xs, hk, rfl, hb, HO2, HX⟩ := hrel
    by_cases hlt : k < n
    · have hl : xs.length = n := by have := HO2.out.1; omega
      have hf : wr.frozen? ⟨g, n - 1 - k, none⟩ = false := HO2.out.frozenAt _
      obtain ⟨old, hc3⟩ : ∃ old, wr.cell? ⟨g, n - 1 - k, none⟩ = some old := ⟨_, by rw [HO2.out.cellAt _ (by omega)]; exact List.getElem?_eq_getElem (by omega)⟩
      have HL := hide hl
      clear hl
      go_wp2
      have hst := HO2.out.stored (n - 1 - k) (.int .u8 (v / 2 ^ (8 * k) % 256))
      refine ⟨⟨k + 1, _, by omega, by go_num, grown_trans hb hst.2, hide hst.1, hide (fun j h1 h2 => ?_)⟩, by simp [intOf]; omega⟩
      by_cases ej : j = n - 1 - k
      · subst ej
        have hl := HL.out
        rw [List.getElem?_set_self (by omega)]
        unfold byteOf
        rw [show n - 1 - (n - 1 - k) = k by omega]
      · rw [List.getElem?_set_ne (fun h => ej h.symm)]
        exact HX.out j (by omega) h2
    · go_wp2
      go_end0
      exact ⟨rfl, hb, xs, HO2.out, fun j hj => HX.out j (by omega) hj⟩

theorem own4 (w : World) (z : Value) (e : Nat) : ((w.alloc (.cells #[z, z, z, z] e)).alloc (.cells #[z, z, z, z] e)).ownsRow (w.heap.size + 1) e 1 (.slice (some ⟨w.heap.size + 1, 0, none⟩) 4 4) 4 [z, z, z, z] := by
  have h := World.ownsRow_lit (base := w.heap.size + 1) (e := e) (size := 1) (w.alloc (.cells #[z, z, z, z] e)) #[z, z, z, z] 4 (by simp) (by decide) rfl
  simpa using h
theorem heap2 (w : World) (a b : Obj) : ((w.alloc a).alloc b).heap[w.heap.size]? = some a := by
  rw [Below.heap_alloc (w.alloc a) b w.heap.size (by rw [World.size_alloc]; omega)]; exact heap_alloc_new w a
theorem Below.alloc2 (w : World) (a b : Obj) : Below w.heap.size w ((w.alloc a).alloc b) := ((Below.refl _ _).alloc (Nat.le_refl _) _).alloc (by simp) _
set_option maxHeartbeats 400000 in
theorem splitAddr_walk (v : Int) (w : World) :
    Calls Try.prog 77 #[.int .i64 v] w fun e w' => e = .returned (.agg #[.int .u8 (byteOf v 4 0), .int .u8 (byteOf v 4 1), .int .u8 (byteOf v 4 2), .int .u8 (byteOf v 4 3)]) ∧ Below w.heap.size w w' := by
  go_enter Try.func77, Try.ntmps77
  go_wp2_with fail
  refine (putNumber_walk (w.heap.size + 1) 4 v 101 _ _ (by omega) (own4 w _ _)).mono ?_
  rintro e w1 ⟨rfl, hg, xs, hown, hx⟩
  have c0 := (hown.cellAt 0 (by omega)).trans (hx 0 (by omega))
  have c1 := (hown.cellAt 1 (by omega)).trans (hx 1 (by omega))
  have c2 := (hown.cellAt 2 (by omega)).trans (hx 2 (by omega))
  have c3 := (hown.cellAt 3 (by omega)).trans (hx 3 (by omega))
  have hblk : w1.heap[w.heap.size]? = some (.cells #[.int .u8 0, .int .u8 0, .int .u8 0, .int .u8 0] 101) := by
    rw [hg.block w.heap.size (by rw [World.size_alloc, World.size_alloc]; omega) (by simp)]; exact heap2 w _ _
  have hbel : Below w.heap.size w w1 := (Below.alloc2 w _ _).grown hg (by rw [World.size_alloc, World.size_alloc]; omega) (fun k hk => by cases hk; omega)
  have hz : w.heap.size + 1 < w1.heap.size := by have := hg.size; simp at this; omega
  have d : ∀ o, o < 4 → w1.cell? ⟨w.heap.size, o, none⟩ = some (.int .u8 0) := by
    intro o ho
    rw [cell_of_row w1 w.heap.size o _ _ _ hblk]
    match o, ho with
    | 0, _ => rfl
    | 1, _ => rfl
    | 2, _ => rfl
    | 3, _ => rfl
  have f : ∀ o, w1.frozen? ⟨w.heap.size, o, none⟩ = false := fun o => frozen_of_row w1 w.heap.size o _ _ hblk
  have d0 := d 0 (by omega)
  have d1 := d 1 (by omega)
  have d2 := d 2 (by omega)
  have d3 := d 3 (by omega)
  have HO := hide hown
  clear hown hx hg hblk d
  go_wp2
  exact bodyPost_ret (v := .agg #[.int .u8 (byteOf v 4 0), .int .u8 (byteOf v 4 1), .int .u8 (byteOf v 4 2), .int .u8 (byteOf v 4 3)]) (by simp [results, Try.results77, go_sem, d0, d1, d2, d3]) rfl ⟨rfl, (((hbel.setCell (Nat.le_refl _) _).setCell (Nat.le_refl _) _).setCell (Nat.le_refl _) _).setCell (Nat.le_refl _) _⟩

theorem eqArr4 (a b c d a' b' c' d' : Int) (w : World) : (Op.equalIn 10000 101 (.agg #[.int .u8 a, .int .u8 b, .int .u8 c, .int .u8 d]) (.agg #[.int .u8 a', .int .u8 b', .int .u8 c', .int .u8 d'])).run Try.prog w = .ok (a == a' && (b == b' && (c == c' && d == d'))) w := by
  have u3 := Try.underlying5
  have a3 := Try.isAgg5
  have z3 := Try.sizeOf5
  rw [show (10000 : Nat) = 9999 + 1 from rfl, Op.equalIn]
  simp only [Sem.run_bind, run_underlying Try.underlying101, Result.andThen_ok]
  simp only [Std.Legacy.Range.forIn_eq_forIn_range', Std.Legacy.Range.size, Nat.sub_zero, Nat.add_sub_cancel, Nat.div_one, List.range'_succ, List.range'_zero, List.forIn_cons, List.forIn_nil]
  go_simp
  by_cases h1 : a = a' <;> by_cases h2 : b = b' <;> by_cases h3 : c = c' <;> by_cases h4 : d = d' <;> simp [h1, h2, h3, h4]

/-- The kind of an address. -/
def kind (a : Int) : Int :=
  if a = 0 then 1 else if a / 16777216 = 127 then 2 else if a = 4294967295 then 4 else if a / 268435456 = 14 then 3 else if a / 268435456 = 15 then 5 else 6
theorem specKind_no (a : Int) (w : World) (h : adrB a = false) :
    Calls Try.prog 52 #[.int .i64 a] w fun e w' => e = .returned (.int .i64 0) ∧ w' = w := by
  go_enter Try.func52, Try.ntmps52
  go_wp2_with (go_at_call 70; refine (specAddrOK_walk _ _).mono ?_; rintro e w' ⟨rfl, rfl⟩)
  go_ret
  exact ⟨rfl, rfl⟩
theorem specKind_yes (a : Int) (w : World) (h : adrB a = true) :
    Calls Try.prog 52 #[.int .i64 a] w fun e w' => e = .returned (.int .i64 (kind a)) ∧ w' = w := by
  have hb := adrB_iff.1 h
  go_enter Try.func52, Try.ntmps52
  go_wp2_with (go_at_call 70; refine (specAddrOK_walk _ _).mono ?_; rintro e w' ⟨rfl, rfl⟩)
  all_goals
    go_ret
    refine ⟨ret_int ?_, rfl⟩
    simp only [beq_iff_eq, beq_eq_false_iff_ne, ne_eq] at *
    unfold kind
    repeat (first | rw [if_pos (by omega)] | rw [if_neg (by omega)])
theorem kind_no (a : Int) (w : World) (h : adrB a = false) :
    Calls Try.prog 60 #[.int .i64 a] w fun e w' => e = .returned (.int .i64 0) ∧ Below w.heap.size w w' := by
  go_enter Try.func60, Try.ntmps60
  go_wp2_with (go_at_call 76; refine (isAddr_walk _ _).mono ?_; rintro e w' ⟨rfl, rfl⟩)
  go_ret
  exact ⟨rfl, Below.refl _ _⟩
attribute [local go_sem] eqArr4
theorem kind_yes (a : Int) (w : World) (h : adrB a = true) :
    Calls Try.prog 60 #[.int .i64 a] w fun e w' => e = .returned (.int .i64 (kind a)) ∧ Below w.heap.size w w' := by
  have hb := adrB_iff.1 h
  go_enter Try.func60, Try.ntmps60
  go_wp2_with (go_at_call 76; refine (isAddr_walk _ _).mono ?_; rintro e w' ⟨rfl, rfl⟩)
  refine (splitAddr_walk a _).mono ?_
  rintro e w1 ⟨rfl, hbel⟩
  have e0 : byteOf a 4 0 = a / 16777216 % 256 := by unfold byteOf; simp
  have e1 : byteOf a 4 1 = a / 65536 % 256 := by unfold byteOf; simp
  have e2 : byteOf a 4 2 = a / 256 % 256 := by unfold byteOf; simp
  have e3 : byteOf a 4 3 = a % 256 := by unfold byteOf; simp
  have b0 := byteOf_bd a 4 0
  have E0 := hide e0
  have E1 := hide e1
  have E2 := hide e2
  have E3 := hide e3
  clear e0 e1 e2 e3
  generalize byteOf a 4 0 = x0 at *
  generalize byteOf a 4 1 = x1 at *
  generalize byteOf a 4 2 = x2 at *
  generalize byteOf a 4 3 = x3 at *
  go_wp2
  all_goals
    go_ret
    refine ⟨ret_int ?_, hbel.alloc hbel.size _⟩
    have e0 := E0.out
    have e1 := E1.out
    have e2 := E2.out
    have e3 := E3.out
    simp only [beq_iff_eq, beq_eq_false_iff_ne, ne_eq] at *
    unfold kind
    repeat (first | rw [if_pos (by omega)] | rw [if_neg (by omega)])
end Go.Proofs.Ytgegnkboibgbgaa
