/-
Contracts of functions of this seat.
-/
import Derived.Test.YtakoagfeiolkjabDoorRows
import Derived.WalkKit
import Derived.ProofKit
import Derived.OpenShut
import Derived.Test.YtakoagfeiolkjabDoorUds
namespace Go.Proofs.YtakoagfeiolkjabDoor
open Go.ChangeShapes Go.WideShapes Go.ChangeAt Go.RowKit
set_option linter.unusedVariables false
set_option maxRecDepth 100000
theorem sl_anyf (b off n cap l : Nat) (hl : l ≤ n) (hn : n ≤ cap) : ∃ a' : Option Addr, (∀ w : World, (Instr.slice 22 (.slice (some ⟨b, off, none⟩) n cap) (some (.int .i64 (l : Int))) none none).run Tryd.prog w = .ok (.slice a' (n - l) (cap - l)) w) ∧ (l < cap → a' = some ⟨b, off + l, none⟩) := by
  by_cases hc : l < cap
  · exact ⟨_, sl_from b off n cap l hl hc, fun _ => rfl⟩
  · refine ⟨some ⟨b, off, none⟩, fun w => ?_, fun h => absurd h hc⟩
    have hs : (sizeOf (Tryd.prog.elem 22)).run Tryd.prog w = .ok 1 w := Tryd.sizeOf5 w
    have he := run_slice_l (P := Tryd.prog) (w := w) 22 (some ⟨b, off, none⟩) n cap Tryd.underlying22 .i64 (l : Int) (by omega) (by omega)
    rw [he, hs]
    have e3 : cap = l := by omega
    have e4 : n = l := by omega
    subst e3 e4
    simp [sliced, Result.andThen]
theorem arr_anyf {w : World} {b off cap l : Nat} {zs : List Int} {a' : Option Addr} (ha : Arr w (some ⟨b, off, none⟩) zs) (he : l < cap → a' = some ⟨b, off + l, none⟩) (hh : zs.length ≤ cap) : Arr w a' (zs.drop l) := by
  by_cases hc : l < cap
  · rw [he hc]; exact ha.drop l
  · have e : zs.drop l = [] := List.drop_eq_nil_of_le (by omega)
    rw [e]
    exact ⟨by simp, fun j hj => by simp at hj⟩
/-- What DecodeUdp tells of bytes. -/
def gdC (s d : Int) (zs : List Int) : Int := if adrB s && adrB d then (if zs.length < 8 then 2 else if tnum ((zs.drop 4).take 2) = (zs.length : Int) then (if tnum ((zs.drop 6).take 2) = 0 then 0 else if fsum s d 17 zs = 0 then 0 else 3) else 5) else 1
def gdP (s d : Int) (zs : List Int) : Int := if gdC s d zs = 0 then tnum ((zs.drop 0).take 2) else 0
def gdQ (s d : Int) (zs : List Int) : Int := if gdC s d zs = 0 then tnum ((zs.drop 2).take 2) else 0
def gdB (s d : Int) (zs : List Int) : List Int := if gdC s d zs = 0 then zs.drop 8 else []
theorem gd_no {s d : Int} {zs : List Int} (h : ¬ gdC s d zs = 0) : gdP s d zs = 0 ∧ gdQ s d zs = 0 ∧ gdB s d zs = [] := by
  unfold gdP gdQ gdB; rw [if_neg h, if_neg h, if_neg h]; exact ⟨rfl, rfl, rfl⟩
theorem gd_yes {s d : Int} {zs : List Int} (h : gdC s d zs = 0) : gdP s d zs = tnum ((zs.drop 0).take 2) ∧ gdQ s d zs = tnum ((zs.drop 2).take 2) ∧ gdB s d zs = zs.drop 8 := by
  unfold gdP gdQ gdB; rw [if_pos h, if_pos h, if_pos h]; exact ⟨rfl, rfl, rfl⟩
def ResU (w0 w : World) : Prop := Below w0.heap.size w0 w ∧ w0.heap.size < w.heap.size ∧ w.heap[w0.heap.size]? = some (.cells #[.int .i64 0, .int .i64 0, .slice none 0 0] 36)
theorem ResU.start (w0 : World) : ResU w0 (w0.alloc (.cells #[.int .i64 0, .int .i64 0, .slice none 0 0] 36)) :=
  ⟨(Below.refl _ _).alloc (Nat.le_refl _) _, by rw [World.size_alloc]; omega, heap_alloc_new _ _⟩
theorem ResU.next {w0 w w' : World} (h : ResU w0 w) (hb : Below w.heap.size w w') : ResU w0 w' :=
  ⟨h.1.trans (hb.mono h.1.size), by have := hb.size; have := h.2.1; omega, by rw [hb.block _ h.2.1]; exact h.2.2⟩
theorem ResU.drew {w0 w : World} (h : ResU w0 w) : ResU w0 w.drew := h.next ((Below.refl _ _).drew)
theorem ResU.cells {w0 w : World} (h : ResU w0 w) : w.cell? ⟨w0.heap.size, 0, none⟩ = some (.int .i64 0) ∧ w.cell? ⟨w0.heap.size, 1, none⟩ = some (.int .i64 0) ∧ w.cell? ⟨w0.heap.size, 2, none⟩ = some (.slice none 0 0) ∧ (∀ o, w.frozen? ⟨w0.heap.size, o, none⟩ = false) :=
  ⟨(cell_of_row _ _ 0 _ _ _ h.2.2).trans rfl, (cell_of_row _ _ 1 _ _ _ h.2.2).trans rfl, (cell_of_row _ _ 2 _ _ _ h.2.2).trans rfl, fun o => frozen_of_row w _ o _ _ h.2.2⟩
theorem below_three {w w' : World} {x0 x1 x2 : Value} (h : Below w.heap.size w w') : Below w.heap.size w (((w'.setCell ⟨w.heap.size, 0, none⟩ x0).setCell ⟨w.heap.size, 1, none⟩ x1).setCell ⟨w.heap.size, 2, none⟩ x2) :=
  ((h.setCell (p := ⟨w.heap.size, 0, none⟩) (Nat.le_refl _) _).setCell (p := ⟨w.heap.size, 1, none⟩) (Nat.le_refl _) _).setCell (p := ⟨w.heap.size, 2, none⟩) (Nat.le_refl _) _
theorem own_three {w w' : World} {B : Nat} {v x0 x1 x2 : Value} {zs : List Int} (h : OwnB w' B v zs) (hB : w.heap.size < B) : OwnB (((w'.setCell ⟨w.heap.size, 0, none⟩ x0).setCell ⟨w.heap.size, 1, none⟩ x1).setCell ⟨w.heap.size, 2, none⟩ x2) w.heap.size v zs :=
  (((h.setBelow (a := ⟨w.heap.size, 0, none⟩) hB _).setBelow (a := ⟨w.heap.size, 1, none⟩) hB _).setBelow (a := ⟨w.heap.size, 2, none⟩) hB _).mono (Nat.le_of_lt hB)
set_option maxHeartbeats 2000000 in
theorem specDecU_f1 (a : Option Addr) (n cap : Nat) (s d : Int) (w : World) (h0 : adrB s = false) :
    Calls Tryd.prog 17 #[.slice a n cap, .int .i64 s, .int .i64 d] w fun e w' => e = .returned (.tuple #[.agg #[.int .i64 0, .int .i64 0, .slice none 0 0], .int .i64 1]) ∧ Below w.heap.size w w' := by
  have HR := hide (ResU.start w)
  go_enter Tryd.func17, Tryd.ntmps17
  go_wp2_with (first | (go_at_call 46; refine (specAddrOK_walk _ _).mono ?_; rintro e w' ⟨rfl, rfl⟩))
  exact bodyPost_ret (v := .tuple #[.agg #[.int .i64 0, .int .i64 0, .slice none 0 0], .int .i64 1]) (by simp [results, Tryd.results17, go_sem]) rfl ⟨rfl, HR.out.1⟩
set_option maxHeartbeats 2000000 in
theorem specDecU_f2 (a : Option Addr) (n cap : Nat) (s d : Int) (w : World) (h0 : adrB s = true) (h1 : adrB d = false) :
    Calls Tryd.prog 17 #[.slice a n cap, .int .i64 s, .int .i64 d] w fun e w' => e = .returned (.tuple #[.agg #[.int .i64 0, .int .i64 0, .slice none 0 0], .int .i64 1]) ∧ Below w.heap.size w w' := by
  have HR := hide (ResU.start w)
  go_enter Tryd.func17, Tryd.ntmps17
  go_wp2_with (first | (go_at_call 46; refine (specAddrOK_walk _ _).mono ?_; rintro e w' ⟨rfl, rfl⟩))
  exact bodyPost_ret (v := .tuple #[.agg #[.int .i64 0, .int .i64 0, .slice none 0 0], .int .i64 1]) (by simp [results, Tryd.results17, go_sem]) rfl ⟨rfl, HR.out.1⟩
set_option maxHeartbeats 2000000 in
theorem specDecU_short (a : Option Addr) (n cap : Nat) (s d : Int) (w : World) (h0 : adrB s = true) (h1 : adrB d = true) (h : n < 8) :
    Calls Tryd.prog 17 #[.slice a n cap, .int .i64 s, .int .i64 d] w fun e w' => e = .returned (.tuple #[.agg #[.int .i64 0, .int .i64 0, .slice none 0 0], .int .i64 2]) ∧ Below w.heap.size w w' := by
  have HR := hide (ResU.start w)
  go_enter Tryd.func17, Tryd.ntmps17
  go_wp2_with (first | (go_at_call 46; refine (specAddrOK_walk _ _).mono ?_; rintro e w' ⟨rfl, rfl⟩))
  exact bodyPost_ret (v := .tuple #[.agg #[.int .i64 0, .int .i64 0, .slice none 0 0], .int .i64 2]) (by simp [results, Tryd.results17, go_sem]) rfl ⟨rfl, HR.out.1⟩
set_option maxHeartbeats 2000000 in
theorem specDecU_len (b off n cap : Nat) (zs : List Int) (s d : Int) (w : World) (h0 : adrB s = true) (h1 : adrB d = true) (h8 : 8 ≤ n) (hm : n ≤ 1048576) (hn : zs.length = n) (ha : Arr w (some ⟨b, off, none⟩) zs) (hcap : n ≤ cap) (hl : ¬ tnum ((zs.drop 4).take 2) = (n : Int)) :
    Calls Tryd.prog 17 #[.slice (some ⟨b, off, none⟩) n cap, .int .i64 s, .int .i64 d] w fun e w' => e = .returned (.tuple #[.agg #[.int .i64 0, .int .i64 0, .slice none 0 0], .int .i64 5]) ∧ Below w.heap.size w w' := by
  have HR := hide (ResU.start w)
  have N2 := hide (fun W (hb : Below w.heap.size w W) => l03Num_walk (some ⟨b, off + 4, none⟩) 2 (cap - 4) ((zs.drop 4).take 2) W (by rw [List.length_take, List.length_drop]; omega) (((ha.below hb (Nat.le_refl _)).drop 4).take 2) (by omega))
  have s4 : ∀ w : World, (Instr.slice 22 (.slice (some ⟨b, off, none⟩) n cap) (some (.int .i64 4)) (some (.int .i64 6)) none).run Tryd.prog w = .ok (.slice (some ⟨b, off + 4, none⟩) 2 (cap - 4)) w := sl_part b off n cap 4 6 (by omega) (by omega) (by omega)
  generalize tnum ((zs.drop 4).take 2) = y2 at *
  have hb2 : (y2 != (n : Int)) = true := by simpa using hl
  clear ha hn hl
  generalize off + 4 = o4 at *
  generalize cap - 4 = c4 at *
  go_enter Tryd.func17, Tryd.ntmps17
  go_wp2_with (first | (go_at_call 46; refine (specAddrOK_walk _ _).mono ?_; rintro e w' ⟨rfl, rfl⟩))
  refine (N2.out _ HR.out.1).mono ?_
  rintro e w1 ⟨rfl, hw1⟩
  rw [hw1]
  clear hw1
  go_wp2_with fail
  exact bodyPost_ret (v := .tuple #[.agg #[.int .i64 0, .int .i64 0, .slice none 0 0], .int .i64 5]) (by simp [results, Tryd.results17, go_sem]) rfl ⟨rfl, HR.out.1⟩
set_option maxHeartbeats 2000000 in
theorem specDecU_sum (b off n cap : Nat) (zs : List Int) (s d : Int) (w : World) (h0 : adrB s = true) (h1 : adrB d = true) (h8 : 8 ≤ n) (hm : n ≤ 65535) (hn : zs.length = n) (ha : Arr w (some ⟨b, off, none⟩) zs) (hcap : n ≤ cap) (hl : tnum ((zs.drop 4).take 2) = (n : Int)) (hy : ¬ tnum ((zs.drop 6).take 2) = 0) (hf : ¬ fsum s d 17 zs = 0) :
    Calls Tryd.prog 17 #[.slice (some ⟨b, off, none⟩) n cap, .int .i64 s, .int .i64 d] w fun e w' => e = .returned (.tuple #[.agg #[.int .i64 0, .int .i64 0, .slice none 0 0], .int .i64 3]) ∧ Below w.heap.size w w' := by
  have HR := hide (ResU.start w)
  have N2 := hide (fun W (hb : Below w.heap.size w W) => l03Num_walk (some ⟨b, off + 4, none⟩) 2 (cap - 4) ((zs.drop 4).take 2) W (by rw [List.length_take, List.length_drop]; omega) (((ha.below hb (Nat.le_refl _)).drop 4).take 2) (by omega))
  have s4 : ∀ w : World, (Instr.slice 22 (.slice (some ⟨b, off, none⟩) n cap) (some (.int .i64 4)) (some (.int .i64 6)) none).run Tryd.prog w = .ok (.slice (some ⟨b, off + 4, none⟩) 2 (cap - 4)) w := sl_part b off n cap 4 6 (by omega) (by omega) (by omega)
  have N3 := hide (fun W (hb : Below w.heap.size w W) => l03Num_walk (some ⟨b, off + 6, none⟩) 2 (cap - 6) ((zs.drop 6).take 2) W (by rw [List.length_take, List.length_drop]; omega) (((ha.below hb (Nat.le_refl _)).drop 6).take 2) (by omega))
  have s6 : ∀ w : World, (Instr.slice 22 (.slice (some ⟨b, off, none⟩) n cap) (some (.int .i64 6)) (some (.int .i64 8)) none).run Tryd.prog w = .ok (.slice (some ⟨b, off + 6, none⟩) 2 (cap - 6)) w := sl_part b off n cap 6 8 (by omega) (by omega) (by omega)
  have CF := hide (fun W (hb : Below w.heap.size w W) => l10Sum_walk (some ⟨b, off, none⟩) n cap s d 17 zs W hn (ha.below hb (Nat.le_refl _)) (by omega))
  rw [hl] at N2
  generalize tnum ((zs.drop 6).take 2) = y3 at *
  generalize fsum s d 17 zs = FS at *
  have hb2 : ((n : Int) != (n : Int)) = false := by simp
  have hb3 : (y3 != 0) = true := by simpa using hy
  have hb4 : (FS != 0) = true := by simpa using hf
  clear ha hn hl hy hf
  generalize off + 4 = o4 at *
  generalize cap - 4 = c4 at *
  generalize off + 6 = o6 at *
  generalize cap - 6 = c6 at *
  go_enter Tryd.func17, Tryd.ntmps17
  go_wp2_with (first | (go_at_call 46; refine (specAddrOK_walk _ _).mono ?_; rintro e w' ⟨rfl, rfl⟩))
  generalize w.alloc (.cells #[.int .i64 0, .int .i64 0, .slice none 0 0] 36) = W at *
  refine (N2.out _ HR.out.1).mono ?_
  rintro e w1 ⟨rfl, hw1⟩
  rw [hw1]
  clear hw1
  go_wp2_with fail
  refine (N3.out _ HR.out.1).mono ?_
  rintro e w1 ⟨rfl, hw1⟩
  rw [hw1]
  clear hw1
  go_wp2_with fail
  refine (CF.out _ HR.out.1).mono ?_
  rintro e w1 ⟨rfl, hb1⟩
  have HR1 := hide (HR.out.next hb1)
  clear hb1 HR
  obtain ⟨d0, d1, d2, df⟩ := HR1.out.cells
  go_wp2_with fail
  exact bodyPost_ret (v := .tuple #[.agg #[.int .i64 0, .int .i64 0, .slice none 0 0], .int .i64 3]) (by simp [results, Tryd.results17, go_sem, d0, d1, d2]) rfl ⟨rfl, below_three HR1.out.1⟩
set_option maxHeartbeats 4000000 in
theorem specDecU_ok1 (b off n cap : Nat) (zs : List Int) (s d : Int) (w : World) (h0 : adrB s = true) (h1 : adrB d = true) (h8 : 8 ≤ n) (hm : n ≤ 65535) (hn : zs.length = n) (ha : Arr w (some ⟨b, off, none⟩) zs) (hcap : n ≤ cap) (hl : tnum ((zs.drop 4).take 2) = (n : Int)) (hy : tnum ((zs.drop 6).take 2) = 0) :
    Calls Tryd.prog 17 #[.slice (some ⟨b, off, none⟩) n cap, .int .i64 s, .int .i64 d] w fun e w' => ∃ v : Value, e = .returned (.tuple #[.agg #[.int .i64 (tnum ((zs.drop 0).take 2)), .int .i64 (tnum ((zs.drop 2).take 2)), v], .int .i64 0]) ∧ OwnB w' w.heap.size v (zs.drop 8) ∧ Below w.heap.size w w' := by
  have HR := hide (ResU.start w)
  have N2 := hide (fun W (hb : Below w.heap.size w W) => l03Num_walk (some ⟨b, off + 4, none⟩) 2 (cap - 4) ((zs.drop 4).take 2) W (by rw [List.length_take, List.length_drop]; omega) (((ha.below hb (Nat.le_refl _)).drop 4).take 2) (by omega))
  have s4 : ∀ w : World, (Instr.slice 22 (.slice (some ⟨b, off, none⟩) n cap) (some (.int .i64 4)) (some (.int .i64 6)) none).run Tryd.prog w = .ok (.slice (some ⟨b, off + 4, none⟩) 2 (cap - 4)) w := sl_part b off n cap 4 6 (by omega) (by omega) (by omega)
  have N3 := hide (fun W (hb : Below w.heap.size w W) => l03Num_walk (some ⟨b, off + 6, none⟩) 2 (cap - 6) ((zs.drop 6).take 2) W (by rw [List.length_take, List.length_drop]; omega) (((ha.below hb (Nat.le_refl _)).drop 6).take 2) (by omega))
  have s6 : ∀ w : World, (Instr.slice 22 (.slice (some ⟨b, off, none⟩) n cap) (some (.int .i64 6)) (some (.int .i64 8)) none).run Tryd.prog w = .ok (.slice (some ⟨b, off + 6, none⟩) 2 (cap - 6)) w := sl_part b off n cap 6 8 (by omega) (by omega) (by omega)
  have N1 := hide (fun W (hb : Below w.heap.size w W) => l03Num_walk (some ⟨b, off + 2, none⟩) 2 (cap - 2) ((zs.drop 2).take 2) W (by rw [List.length_take, List.length_drop]; omega) (((ha.below hb (Nat.le_refl _)).drop 2).take 2) (by omega))
  have s2 : ∀ w : World, (Instr.slice 22 (.slice (some ⟨b, off, none⟩) n cap) (some (.int .i64 2)) (some (.int .i64 4)) none).run Tryd.prog w = .ok (.slice (some ⟨b, off + 2, none⟩) 2 (cap - 2)) w := sl_part b off n cap 2 4 (by omega) (by omega) (by omega)
  have N0 := hide (fun W (hb : Below w.heap.size w W) => l03Num_walk (some ⟨b, off, none⟩) 2 cap ((zs.drop 0).take 2) W (by rw [List.length_take, List.length_drop]; omega) ((ha.below hb (Nat.le_refl _)).take 2) (by omega))
  have s0 : ∀ w : World, (Instr.slice 22 (.slice (some ⟨b, off, none⟩) n cap) none (some (.int .i64 2)) none).run Tryd.prog w = .ok (.slice (some ⟨b, off, none⟩) 2 cap) w := sl_to b off n cap 2 (by omega) (by omega)
  obtain ⟨aB, s8', hB8⟩ := sl_anyf b off n cap 8 (by omega) (by omega)
  have s8 : ∀ w : World, (Instr.slice 22 (.slice (some ⟨b, off, none⟩) n cap) (some (.int .i64 8)) none none).run Tryd.prog w = .ok (.slice aB (n - 8) (cap - 8)) w := s8'
  clear s8'
  have C4 := hide (fun W (hb : Below w.heap.size w W) => l01Copy_walk aB (n - 8) (cap - 8) (zs.drop 8) W (by rw [List.length_drop]; omega) (arr_anyf (ha.below hb (Nat.le_refl _)) hB8 (by omega)) (by omega))
  rw [hl] at N2
  rw [hy] at N3
  generalize tnum ((zs.drop 0).take 2) = y0 at *
  generalize tnum ((zs.drop 2).take 2) = y1 at *
  have hb2 : ((n : Int) != (n : Int)) = false := by simp
  clear ha hn hl hy hB8
  generalize zs.drop 8 = ps at *
  generalize off + 2 = o2 at *
  generalize cap - 2 = c2 at *
  generalize off + 4 = o4 at *
  generalize cap - 4 = c4 at *
  generalize off + 6 = o6 at *
  generalize cap - 6 = c6 at *
  go_enter Tryd.func17, Tryd.ntmps17
  go_wp2_with (first | (go_at_call 46; refine (specAddrOK_walk _ _).mono ?_; rintro e w' ⟨rfl, rfl⟩))
  generalize w.alloc (.cells #[.int .i64 0, .int .i64 0, .slice none 0 0] 36) = W at *
  refine (N2.out _ HR.out.1).mono ?_
  rintro e w1 ⟨rfl, hw1⟩
  rw [hw1]
  clear hw1
  go_wp2_with fail
  refine (N3.out _ HR.out.1).mono ?_
  rintro e w1 ⟨rfl, hw1⟩
  rw [hw1]
  clear hw1
  go_wp2_with fail
  have HBD := hide HR.out.drew.1
  go_region_held3 (fun w' => Below w.heap.size w w') (with_reducible first | assumption | exact HBD.out | exact hBC | exact below_three (by assumption))
    (first
      | (go_at_call_of 47 (Value.slice (some ⟨b, off, none⟩) 2 cap); refine (N0.out _ (by assumption : Below w.heap.size w _)).mono ?_; rintro r w' ⟨rfl, rfl⟩)
      | (go_at_call_of 47 (Value.slice (some ⟨b, o2, none⟩) 2 c2); refine (N1.out _ (by assumption : Below w.heap.size w _)).mono ?_; rintro r w' ⟨rfl, rfl⟩)
      | (go_at_call 49; refine (C4.out _ (by assumption : Below w.heap.size w _)).mono ?_; rintro r w' ⟨uc, rfl, hOc, hbc⟩; obtain ⟨ac, cc, rfl, hac⟩ := own_slice hOc; have HRC := hide (HR.out.drew.next hbc); have hBC := HRC.out.1; have hlt := HR.out.2.1; obtain ⟨d0, d1, d2, df⟩ := HRC.out.cells))
  all_goals go_wp2_with fail
  all_goals exact bodyPost_ret (v := .tuple #[.agg #[.int .i64 y0, .int .i64 y1, .slice ac ps.length cc], .int .i64 0]) (by simp [results, Tryd.results17, go_sem, d0, d1, d2]) rfl ⟨.slice ac ps.length cc, rfl, own_three hOc hlt, below_three HRC.out.1⟩
set_option maxHeartbeats 4000000 in
theorem specDecU_ok2 (b off n cap : Nat) (zs : List Int) (s d : Int) (w : World) (h0 : adrB s = true) (h1 : adrB d = true) (h8 : 8 ≤ n) (hm : n ≤ 65535) (hn : zs.length = n) (ha : Arr w (some ⟨b, off, none⟩) zs) (hcap : n ≤ cap) (hl : tnum ((zs.drop 4).take 2) = (n : Int)) (hy : ¬ tnum ((zs.drop 6).take 2) = 0) (hf : fsum s d 17 zs = 0) :
    Calls Tryd.prog 17 #[.slice (some ⟨b, off, none⟩) n cap, .int .i64 s, .int .i64 d] w fun e w' => ∃ v : Value, e = .returned (.tuple #[.agg #[.int .i64 (tnum ((zs.drop 0).take 2)), .int .i64 (tnum ((zs.drop 2).take 2)), v], .int .i64 0]) ∧ OwnB w' w.heap.size v (zs.drop 8) ∧ Below w.heap.size w w' := by
  have HR := hide (ResU.start w)
  have N2 := hide (fun W (hb : Below w.heap.size w W) => l03Num_walk (some ⟨b, off + 4, none⟩) 2 (cap - 4) ((zs.drop 4).take 2) W (by rw [List.length_take, List.length_drop]; omega) (((ha.below hb (Nat.le_refl _)).drop 4).take 2) (by omega))
  have s4 : ∀ w : World, (Instr.slice 22 (.slice (some ⟨b, off, none⟩) n cap) (some (.int .i64 4)) (some (.int .i64 6)) none).run Tryd.prog w = .ok (.slice (some ⟨b, off + 4, none⟩) 2 (cap - 4)) w := sl_part b off n cap 4 6 (by omega) (by omega) (by omega)
  have N3 := hide (fun W (hb : Below w.heap.size w W) => l03Num_walk (some ⟨b, off + 6, none⟩) 2 (cap - 6) ((zs.drop 6).take 2) W (by rw [List.length_take, List.length_drop]; omega) (((ha.below hb (Nat.le_refl _)).drop 6).take 2) (by omega))
  have s6 : ∀ w : World, (Instr.slice 22 (.slice (some ⟨b, off, none⟩) n cap) (some (.int .i64 6)) (some (.int .i64 8)) none).run Tryd.prog w = .ok (.slice (some ⟨b, off + 6, none⟩) 2 (cap - 6)) w := sl_part b off n cap 6 8 (by omega) (by omega) (by omega)
  have CF := hide (fun W (hb : Below w.heap.size w W) => l10Sum_walk (some ⟨b, off, none⟩) n cap s d 17 zs W hn (ha.below hb (Nat.le_refl _)) (by omega))
  have N1 := hide (fun W (hb : Below w.heap.size w W) => l03Num_walk (some ⟨b, off + 2, none⟩) 2 (cap - 2) ((zs.drop 2).take 2) W (by rw [List.length_take, List.length_drop]; omega) (((ha.below hb (Nat.le_refl _)).drop 2).take 2) (by omega))
  have s2 : ∀ w : World, (Instr.slice 22 (.slice (some ⟨b, off, none⟩) n cap) (some (.int .i64 2)) (some (.int .i64 4)) none).run Tryd.prog w = .ok (.slice (some ⟨b, off + 2, none⟩) 2 (cap - 2)) w := sl_part b off n cap 2 4 (by omega) (by omega) (by omega)
  have N0 := hide (fun W (hb : Below w.heap.size w W) => l03Num_walk (some ⟨b, off, none⟩) 2 cap ((zs.drop 0).take 2) W (by rw [List.length_take, List.length_drop]; omega) ((ha.below hb (Nat.le_refl _)).take 2) (by omega))
  have s0 : ∀ w : World, (Instr.slice 22 (.slice (some ⟨b, off, none⟩) n cap) none (some (.int .i64 2)) none).run Tryd.prog w = .ok (.slice (some ⟨b, off, none⟩) 2 cap) w := sl_to b off n cap 2 (by omega) (by omega)
  obtain ⟨aB, s8', hB8⟩ := sl_anyf b off n cap 8 (by omega) (by omega)
  have s8 : ∀ w : World, (Instr.slice 22 (.slice (some ⟨b, off, none⟩) n cap) (some (.int .i64 8)) none none).run Tryd.prog w = .ok (.slice aB (n - 8) (cap - 8)) w := s8'
  clear s8'
  have C4 := hide (fun W (hb : Below w.heap.size w W) => l01Copy_walk aB (n - 8) (cap - 8) (zs.drop 8) W (by rw [List.length_drop]; omega) (arr_anyf (ha.below hb (Nat.le_refl _)) hB8 (by omega)) (by omega))
  rw [hl] at N2
  rw [hf] at CF
  generalize tnum ((zs.drop 0).take 2) = y0 at *
  generalize tnum ((zs.drop 2).take 2) = y1 at *
  generalize tnum ((zs.drop 6).take 2) = y3 at *
  have hb3 : (y3 != 0) = true := by simpa using hy
  have hb2 : ((n : Int) != (n : Int)) = false := by simp
  clear ha hn hl hy hf hB8
  generalize zs.drop 8 = ps at *
  generalize off + 2 = o2 at *
  generalize cap - 2 = c2 at *
  generalize off + 4 = o4 at *
  generalize cap - 4 = c4 at *
  generalize off + 6 = o6 at *
  generalize cap - 6 = c6 at *
  go_enter Tryd.func17, Tryd.ntmps17
  go_wp2_with (first | (go_at_call 46; refine (specAddrOK_walk _ _).mono ?_; rintro e w' ⟨rfl, rfl⟩))
  generalize w.alloc (.cells #[.int .i64 0, .int .i64 0, .slice none 0 0] 36) = W at *
  refine (N2.out _ HR.out.1).mono ?_
  rintro e w1 ⟨rfl, hw1⟩
  rw [hw1]
  clear hw1
  go_wp2_with fail
  refine (N3.out _ HR.out.1).mono ?_
  rintro e w1 ⟨rfl, hw1⟩
  rw [hw1]
  clear hw1
  go_wp2_with fail
  refine (CF.out _ HR.out.1).mono ?_
  rintro e w1 ⟨rfl, hb1⟩
  replace HR := hide (HR.out.next hb1)
  clear hb1
  go_wp2_with fail
  have HBD := hide HR.out.drew.1
  go_region_held3 (fun w' => Below w.heap.size w w') (with_reducible first | assumption | exact HBD.out | exact hBC | exact below_three (by assumption))
    (first
      | (go_at_call_of 47 (Value.slice (some ⟨b, off, none⟩) 2 cap); refine (N0.out _ (by assumption : Below w.heap.size w _)).mono ?_; rintro r w' ⟨rfl, rfl⟩)
      | (go_at_call_of 47 (Value.slice (some ⟨b, o2, none⟩) 2 c2); refine (N1.out _ (by assumption : Below w.heap.size w _)).mono ?_; rintro r w' ⟨rfl, rfl⟩)
      | (go_at_call 49; refine (C4.out _ (by assumption : Below w.heap.size w _)).mono ?_; rintro r w' ⟨uc, rfl, hOc, hbc⟩; obtain ⟨ac, cc, rfl, hac⟩ := own_slice hOc; have HRC := hide (HR.out.drew.next hbc); have hBC := HRC.out.1; have hlt := HR.out.2.1; obtain ⟨d0, d1, d2, df⟩ := HRC.out.cells))
  all_goals go_wp2_with fail
  all_goals exact bodyPost_ret (v := .tuple #[.agg #[.int .i64 y0, .int .i64 y1, .slice ac ps.length cc], .int .i64 0]) (by simp [results, Tryd.results17, go_sem, d0, d1, d2]) rfl ⟨.slice ac ps.length cc, rfl, own_three hOc hlt, below_three HRC.out.1⟩
end Go.Proofs.YtakoagfeiolkjabDoor
