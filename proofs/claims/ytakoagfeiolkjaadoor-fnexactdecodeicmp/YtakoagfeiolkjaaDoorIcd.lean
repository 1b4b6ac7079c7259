/-
Contracts of functions of this seat.
-/
import Derived.Test.YtakoagfeiolkjaaDoorRows
import Derived.WalkKit
import Derived.ProofKit
import Derived.OpenShut
import Derived.Test.YtakoagfeiolkjaaDoorSti
import Derived.Test.YtakoagfeiolkjaaDoorIpe
namespace Go.Proofs.YtakoagfeiolkjaaDoor
open Go.ChangeShapes Go.WideShapes Go.ChangeAt Go.RowKit
set_option linter.unusedVariables false
set_option maxRecDepth 100000
theorem sl_anyf (b off n cap l : Nat) (hl : l ≤ n) (hn : n ≤ cap) : ∃ a' : Option Addr, (∀ w : World, (Instr.slice 22 (.slice (some ⟨b, off, none⟩) n cap) (some (.int .i64 (l : Int))) none none).run Tryd.prog w = .ok (.slice a' (n - l) (cap - l)) w) ∧ (l < cap → a' = some ⟨b, off + l, none⟩) := by
  by_cases hc : l < cap
  · exact ⟨_, sl_from b off n cap l hl hc, fun _ => rfl⟩
  · refine ⟨some ⟨b, off, none⟩, fun w => ?_, fun h => absurd h hc⟩
    have hs : (sizeOf (Tryd.prog.elem 22)).run Tryd.prog w = .ok 1 w := Tryd.sizeOf5 w
    have he := run_slice_l (P := Tryd.prog) (w := w) 22 (some ⟨b, off, none⟩) n cap Tryd.underlying22 .i64 (l : Int) (by omega) (by omega)
    rw [he, hs]
    have e3 : cap = l := by omega
    have e4 : n = l := by omega
    subst e3 e4
    simp [sliced, Result.andThen]
theorem arr_anyf {w : World} {b off cap l : Nat} {zs : List Int} {a' : Option Addr} (ha : Arr w (some ⟨b, off, none⟩) zs) (he : l < cap → a' = some ⟨b, off + l, none⟩) (hh : zs.length ≤ cap) : Arr w a' (zs.drop l) := by
  by_cases hc : l < cap
  · rw [he hc]; exact ha.drop l
  · have e : zs.drop l = [] := List.drop_eq_nil_of_le (by omega)
    rw [e]
    exact ⟨by simp, fun j hj => by simp at hj⟩
/-- What DecodeIcmp tells of bytes. -/
def idC (zs : List Int) : Int := if zs.length < 8 then 2 else if 65008 < zs.length then 7 else if csum zs = 0 then 0 else 3
def idT (zs : List Int) : Int := if idC zs = 0 then zs.getD 0 0 else 0
def idK (zs : List Int) : Int := if idC zs = 0 then zs.getD 1 0 else 0
def idR (zs : List Int) : Int := if idC zs = 0 then tnum ((zs.drop 4).take 4) else 0
def idB (zs : List Int) : List Int := if idC zs = 0 then zs.drop 8 else []
theorem id_no {zs : List Int} (h : ¬ idC zs = 0) : idT zs = 0 ∧ idK zs = 0 ∧ idR zs = 0 ∧ idB zs = [] := by
  unfold idT idK idR idB; rw [if_neg h, if_neg h, if_neg h, if_neg h]; exact ⟨rfl, rfl, rfl, rfl⟩
theorem id_yes {zs : List Int} (h : idC zs = 0) : idT zs = zs.getD 0 0 ∧ idK zs = zs.getD 1 0 ∧ idR zs = tnum ((zs.drop 4).take 4) ∧ idB zs = zs.drop 8 := by
  unfold idT idK idR idB; rw [if_pos h, if_pos h, if_pos h, if_pos h]; exact ⟨rfl, rfl, rfl, rfl⟩
def ResI (w0 w : World) : Prop := Below w0.heap.size w0 w ∧ w0.heap.size < w.heap.size ∧ w.heap[w0.heap.size]? = some (.cells #[.int .i64 0, .int .i64 0, .int .i64 0, .slice none 0 0] 32)
theorem ResI.start (w0 : World) : ResI w0 (w0.alloc (.cells #[.int .i64 0, .int .i64 0, .int .i64 0, .slice none 0 0] 32)) :=
  ⟨(Below.refl _ _).alloc (Nat.le_refl _) _, by rw [World.size_alloc]; omega, heap_alloc_new _ _⟩
theorem ResI.next {w0 w w' : World} (h : ResI w0 w) (hb : Below w.heap.size w w') : ResI w0 w' :=
  ⟨h.1.trans (hb.mono h.1.size), by have := hb.size; have := h.2.1; omega, by rw [hb.block _ h.2.1]; exact h.2.2⟩
theorem ResI.drew {w0 w : World} (h : ResI w0 w) : ResI w0 w.drew := h.next ((Below.refl _ _).drew)
theorem ResI.cells {w0 w : World} (h : ResI w0 w) : w.cell? ⟨w0.heap.size, 0, none⟩ = some (.int .i64 0) ∧ w.cell? ⟨w0.heap.size, 1, none⟩ = some (.int .i64 0) ∧ w.cell? ⟨w0.heap.size, 2, none⟩ = some (.int .i64 0) ∧ w.cell? ⟨w0.heap.size, 3, none⟩ = some (.slice none 0 0) ∧ ∀ o, w.frozen? ⟨w0.heap.size, o, none⟩ = false := four_cells h.2.2
set_option maxHeartbeats 1000000 in
theorem specDecIcmp_short (a : Option Addr) (n cap : Nat) (w : World) (h : n < 8) :
    Calls Tryd.prog 11 #[.slice a n cap] w fun e w' => e = .returned (.tuple #[.agg #[.int .i64 0, .int .i64 0, .int .i64 0, .slice none 0 0], .int .i64 2]) ∧ Below w.heap.size w w' := by
  have HR := hide (ResI.start w)
  go_enter Tryd.func11, Tryd.ntmps11
  go_wp2_with fail
  exact bodyPost_ret (v := .tuple #[.agg #[.int .i64 0, .int .i64 0, .int .i64 0, .slice none 0 0], .int .i64 2]) (by simp [results, Tryd.results11, go_sem]) rfl ⟨rfl, HR.out.1⟩
set_option maxHeartbeats 1000000 in
theorem specDecIcmp_long (a : Option Addr) (n cap : Nat) (w : World) (h : 65008 < n) (hm : n ≤ 1048576) :
    Calls Tryd.prog 11 #[.slice a n cap] w fun e w' => e = .returned (.tuple #[.agg #[.int .i64 0, .int .i64 0, .int .i64 0, .slice none 0 0], .int .i64 7]) ∧ Below w.heap.size w w' := by
  have HR := hide (ResI.start w)
  go_enter Tryd.func11, Tryd.ntmps11
  go_wp2_with fail
  exact bodyPost_ret (v := .tuple #[.agg #[.int .i64 0, .int .i64 0, .int .i64 0, .slice none 0 0], .int .i64 7]) (by simp [results, Tryd.results11, go_sem]) rfl ⟨rfl, HR.out.1⟩
theorem csum_calls (a : Option Addr) (n cap : Nat) (zs : List Int) (w : World) (hn : zs.length = n) (ha : Arr w a zs) (hm : n ≤ 1048576) :
    Calls Tryd.prog 27 #[.slice a n cap] w fun e w' => e = .returned (.int .i64 (csum zs)) ∧ w' = w := by
  subst hn; exact specChecksum_walk a _ cap zs w rfl ha hm
set_option maxHeartbeats 1000000 in
theorem specDecIcmp_sum (a : Option Addr) (n cap : Nat) (zs : List Int) (w : World) (hn : zs.length = n) (ha : Arr w a zs) (h0 : 8 ≤ n) (h1 : n ≤ 65008) (hs : ¬ csum zs = 0) :
    Calls Tryd.prog 11 #[.slice a n cap] w fun e w' => e = .returned (.tuple #[.agg #[.int .i64 0, .int .i64 0, .int .i64 0, .slice none 0 0], .int .i64 3]) ∧ Below w.heap.size w w' := by
  have HR := hide (ResI.start w)
  have CC := hide (fun W (hb : Below w.heap.size w W) => csum_calls a n cap zs W hn (ha.below hb (Nat.le_refl _)) (by omega))
  generalize csum zs = S at *
  clear hn ha
  go_enter Tryd.func11, Tryd.ntmps11
  go_wp2_with fail
  refine (CC.out _ HR.out.1).mono ?_
  rintro e w1 ⟨rfl, hw1⟩
  rw [hw1]
  clear hw1
  go_wp2_with fail
  exact bodyPost_ret (v := .tuple #[.agg #[.int .i64 0, .int .i64 0, .int .i64 0, .slice none 0 0], .int .i64 3]) (by simp [results, Tryd.results11, go_sem]) rfl ⟨rfl, HR.out.1⟩
/-- Two bytes are as they were. -/
abbrev In2 (w w' : World) (b off : Nat) (y0 y1 : Int) : Prop := Below w.heap.size w w' ∧ b < w.heap.size ∧ w'.cell? ⟨b, off, none⟩ = some (.int .u8 y0) ∧ w'.cell? ⟨b, off + 1, none⟩ = some (.int .u8 y1)
theorem In2.start {w w1 : World} {b off : Nat} {y0 y1 : Int} (hb : Below w.heap.size w w1) (hlt : b < w.heap.size) (c0 : w.cell? ⟨b, off + 0, none⟩ = some (.int .u8 y0)) (c1 : w.cell? ⟨b, off + 1, none⟩ = some (.int .u8 y1)) : In2 w w1 b off y0 y1 :=
  ⟨hb, hlt, by rw [hb.cell (p := ⟨b, off, none⟩) hlt]; exact c0, by rw [hb.cell (p := ⟨b, off + 1, none⟩) hlt]; exact c1⟩
theorem In2.next {w w1 w2 : World} {b off : Nat} {y0 y1 : Int} (h : In2 w w1 b off y0 y1) (hb : Below w1.heap.size w1 w2) : In2 w w2 b off y0 y1 := by
  obtain ⟨h1, h2, c0, c1⟩ := h
  have hlt : b < w1.heap.size := Nat.lt_of_lt_of_le h2 h1.size
  exact ⟨h1.trans (hb.mono h1.size), h2, by rw [hb.cell (p := ⟨b, off, none⟩) hlt]; exact c0, by rw [hb.cell (p := ⟨b, off + 1, none⟩) hlt]; exact c1⟩
theorem In2.four {w w' : World} {b off : Nat} {y0 y1 : Int} {x0 x1 x2 x3 : Value} (h : In2 w w' b off y0 y1) : In2 w ((((w'.setCell ⟨w.heap.size, 0, none⟩ x0).setCell ⟨w.heap.size, 1, none⟩ x1).setCell ⟨w.heap.size, 2, none⟩ x2).setCell ⟨w.heap.size, 3, none⟩ x3) b off y0 y1 := by
  obtain ⟨h1, h2, c0, c1⟩ := h
  have hb := below_four (x0 := x0) (x1 := x1) (x2 := x2) (x3 := x3) h1
  exact ⟨hb, h2, by rw [hb.cell (p := ⟨b, off, none⟩) h2, ← h1.cell (p := ⟨b, off, none⟩) h2]; exact c0, by rw [hb.cell (p := ⟨b, off + 1, none⟩) h2, ← h1.cell (p := ⟨b, off + 1, none⟩) h2]; exact c1⟩
set_option maxHeartbeats 4000000 in
theorem specDecIcmp_good (b off n cap : Nat) (zs : List Int) (w : World) (hn : zs.length = n) (ha : Arr w (some ⟨b, off, none⟩) zs) (h0 : 8 ≤ n) (h1 : n ≤ 65008) (hc : n ≤ cap) (hs : csum zs = 0) :
    Calls Tryd.prog 11 #[.slice (some ⟨b, off, none⟩) n cap] w fun e w' => ∃ v : Value, e = .returned (.tuple #[.agg #[.int .i64 (zs.getD 0 0), .int .i64 (zs.getD 1 0), .int .i64 (tnum ((zs.drop 4).take 4)), v], .int .i64 0]) ∧ OwnB w' w.heap.size v (zs.drop 8) ∧ Below w.heap.size w w' := by
  have HR := hide (ResI.start w)
  have CC := hide (fun W (hb : Below w.heap.size w W) => by have h := csum_calls (some ⟨b, off, none⟩) n cap zs W hn (ha.below hb (Nat.le_refl _)) (by omega); rw [hs] at h; exact h)
  have N1 := hide (fun W (hb : Below w.heap.size w W) => l03Num_walk (some ⟨b, off + 4, none⟩) 4 (cap - 4) ((zs.drop 4).take 4) W (by rw [List.length_take, List.length_drop]; omega) (((ha.below hb (Nat.le_refl _)).drop 4).take 4) (by omega))
  obtain ⟨aB, s8', hB8⟩ := sl_anyf b off n cap 8 (by omega) (by omega)
  have s8 : ∀ w : World, (Instr.slice 22 (.slice (some ⟨b, off, none⟩) n cap) (some (.int .i64 8)) none none).run Tryd.prog w = .ok (.slice aB (n - 8) (cap - 8)) w := s8'
  clear s8'
  have s4 : ∀ w : World, (Instr.slice 22 (.slice (some ⟨b, off, none⟩) n cap) (some (.int .i64 4)) (some (.int .i64 8)) none).run Tryd.prog w = .ok (.slice (some ⟨b, off + 4, none⟩) 4 (cap - 4)) w := sl_part b off n cap 4 8 (by omega) (by omega) (by omega)
  have C4 := hide (fun W (hb : Below w.heap.size w W) => l01Copy_walk aB (n - 8) (cap - 8) (zs.drop 8) W (by rw [List.length_drop]; omega) (arr_anyf (ha.below hb (Nat.le_refl _)) hB8 (by omega)) (by omega))
  obtain ⟨b', off', e, hlt, q0⟩ := ha.2 0 (by omega)
  cases e
  obtain ⟨b', off', e, _, q1⟩ := ha.2 1 (by omega)
  cases e
  obtain ⟨z0a, z0b⟩ := getD_bd ha.1 0
  obtain ⟨z1a, z1b⟩ := getD_bd ha.1 1
  clear hn ha hs hB8
  generalize zs.getD 0 0 = y0 at *
  generalize zs.getD 1 0 = y1 at *
  generalize tnum ((zs.drop 4).take 4) = y2 at *
  generalize zs.drop 8 = ps at *
  generalize off + 4 = o4 at *
  generalize cap - 4 = c4 at *
  go_enter Tryd.func11, Tryd.ntmps11
  go_wp2_with fail
  generalize w.alloc (.cells #[.int .i64 0, .int .i64 0, .int .i64 0, .slice none 0 0] 32) = W at *
  refine (CC.out _ HR.out.1).mono ?_
  rintro e w1 ⟨rfl, hw1⟩
  rw [hw1]
  clear hw1
  have HI := hide (In2.start HR.out.1 hlt q0 q1)
  have hl0 : 0 < n := by omega
  have e0 : IntKind.i64.wrap y0 = y0 := wrap_i64' _ z0a (by omega)
  have e1 : IntKind.i64.wrap y1 = y1 := wrap_i64' _ z1a (by omega)
  have hl1 : (1 : Int) < (n : Int) := by omega
  clear q0 q1
  go_wp2_with fail
  go_region_held3 (fun w' => In2 w w' b off y0 y1) (with_reducible first | assumption | exact HI.out.next ((Below.refl _ _).drew) | exact In2.next (by assumption) hbc | exact In2.four (by assumption))
    (first
      | (go_at_call_of 23 (Value.slice (some ⟨b, o4, none⟩) 4 c4); refine (N1.out _ (by assumption : In2 w _ b off y0 y1).1).mono ?_; rintro r w' ⟨rfl, rfl⟩)
      | (go_at_call 28; refine (C4.out _ (by assumption : In2 w _ b off y0 y1).1).mono ?_; rintro r w' ⟨uc, rfl, hOc, hbc⟩; obtain ⟨ac, cc, rfl, hac⟩ := own_slice hOc; have hR := HR.out.drew.next hbc; have hlt := HR.out.2.1; obtain ⟨d0, d1, d2, d3, df⟩ := hR.cells))
  all_goals go_wp2_with fail
  all_goals exact bodyPost_ret (v := .tuple #[.agg #[.int .i64 y0, .int .i64 y1, .int .i64 y2, .slice ac ps.length cc], .int .i64 0]) (by simp [results, Tryd.results11, go_sem, d0, d1, d2, d3]) rfl ⟨.slice ac ps.length cc, rfl, hOc.four hlt, below_four hR.1⟩
/-- DecodeIcmp of the model. -/
theorem specDecIcmp (zs : List Int) (Pre : World → Prop) : DecIcmpP 11 Pre zs (idT zs) (idK zs) (idR zs) (idB zs) (idC zs) := by
  intro a n cap W hn ha hc hm _
  have bad : ∀ c : Int, idC zs = c → ¬ c = 0 → ∀ r w', r = Ending.returned (.tuple #[.agg #[.int .i64 0, .int .i64 0, .int .i64 0, .slice none 0 0], .int .i64 c]) ∧ Below W.heap.size W w' →
      ∃ v : Value, r = .returned (.tuple #[.agg #[.int .i64 (idT zs), .int .i64 (idK zs), .int .i64 (idR zs), v], .int .i64 (idC zs)]) ∧ OwnB w' W.heap.size v (idB zs) ∧ Below W.heap.size W w' := by
    rintro c hc' h0 r w' ⟨rfl, hb⟩
    obtain ⟨e0, e1, e2, e3⟩ := id_no (zs := zs) (by rw [hc']; exact h0)
    rw [e0, e1, e2, e3, hc']
    exact ⟨_, rfl, ⟨World.ownsRow_nil _ _ _ _, by simp⟩, hb⟩
  by_cases h1 : n < 8
  · exact (specDecIcmp_short a n cap W h1).mono (bad 2 (by unfold idC; rw [if_pos (by omega)]) (by decide))
  · by_cases h2 : 65008 < n
    · exact (specDecIcmp_long a n cap W h2 hm).mono (bad 7 (by unfold idC; rw [if_neg (by omega), if_pos (by omega)]) (by decide))
    · obtain ⟨b, off, rfl, _⟩ := ha.2 0 (by omega)
      by_cases hs : csum zs = 0
      · have hC : idC zs = 0 := by unfold idC; rw [if_neg (by omega), if_neg (by omega), if_pos hs]
        obtain ⟨e0, e1, e2, e3⟩ := id_yes hC
        refine (specDecIcmp_good b off n cap zs W hn ha (by omega) (by omega) hc hs).mono ?_
        rintro r w' ⟨v, rfl, hO, hb⟩
        rw [e0, e1, e2, e3, hC]
        exact ⟨v, rfl, hO, hb⟩
      · exact (specDecIcmp_sum _ n cap zs W hn ha (by omega) (by omega) hs).mono (bad 3 (by unfold idC; rw [if_neg (by omega), if_neg (by omega), if_neg hs]) (by decide))
end Go.Proofs.YtakoagfeiolkjaaDoor
