/-
Contracts of functions of this seat.
-/
import Derived.Test.YtakoagfeiolkjaaDoorRows
import Derived.WalkKit
import Derived.ProofKit
import Derived.OpenShut
import Derived.Test.YtakoagfeiolkjaaDoorIpr
import Derived.Test.YtakoagfeiolkjaaDoorL1q
namespace Go.Proofs.YtakoagfeiolkjaaDoor
open Go.ChangeShapes Go.WideShapes Go.ChangeAt Go.RowKit
set_option linter.unusedVariables false
set_option maxRecDepth 100000
/-- What ReadQuote tells of bytes. -/
def rqC (zs : List Int) : Int := if rhC zs ≠ 0 then rhC zs else if (zs.length : Int) < ihl zs + 8 then 2 else 0
def rqI (zs : List Int) (x : Int) : Int := if rqC zs = 0 then x else 0
def rqS (zs : List Int) : Nat := (ihl zs).toNat
theorem below_7 {w W : World} {g : Nat} {u0 u1 u2 u3 u4 u5 u6 : Value} (h : Below w.heap.size w W) (hg : w.heap.size ≤ g) : Below w.heap.size w (((((((W.setCell ⟨g, 0, none⟩ u0).setCell ⟨g, 1, none⟩ u1).setCell ⟨g, 2, none⟩ u2).setCell ⟨g, 3, none⟩ u3).setCell ⟨g, 4, none⟩ u4).setCell ⟨g, 5, none⟩ u5).setCell ⟨g, 6, none⟩ u6) :=
  below_set (below_set (below_set (below_set (below_set (below_set (below_set h g 0 u0 hg) g 1 u1 hg) g 2 u2 hg) g 3 u3 hg) g 4 u4 hg) g 5 u5 hg) g 6 u6 hg
abbrev quZ : Obj := .cells #[.int .i64 0, .int .i64 0, .int .i64 0, .int .i64 0, .int .i64 0, .int .i64 0, .int .i64 0] 24
set_option maxHeartbeats 2000000 in
theorem specQuote_head (a : Option Addr) (n cap : Nat) (zs : List Int) (w : World) (hn : zs.length = n) (ha : Arr w a zs) (hm : n ≤ 1048576) (hc : n ≤ cap) (h : ¬ rhC zs = 0) :
    Calls Tryd.prog 6 #[.slice a n cap] w fun e w' => e = .returned (.tuple #[.agg #[.int .i64 0, .int .i64 0, .int .i64 0, .int .i64 0, .int .i64 0, .int .i64 0, .int .i64 0], .int .i64 (rhC zs)]) ∧ Below w.heap.size w w' := by
  have HR := hide (Keep.new w quZ)
  have HW := hide ((Below.refl w.heap.size w).alloc (Nat.le_refl _) quZ)
  have CR := hide (fun W (hb : Below w.heap.size w W) => readHead_any a n cap zs W hn (ha.below hb (Nat.le_refl _)) hm hc)
  have hq : (rhC zs == 0) = false := by rw [beq_eq_false_iff_ne]; exact h
  generalize rhC zs = RC at *
  generalize rhN zs = RN at *
  clear ha hn
  go_enter Tryd.func6, Tryd.ntmps6
  go_wp2_with fail
  refine (CR.out _ HW.out).mono ?_
  rintro e w1 ⟨rfl, hw1⟩
  rw [hw1]
  clear hw1
  go_wp2_with fail
  exact bodyPost_ret (v := .tuple #[.agg #[.int .i64 0, .int .i64 0, .int .i64 0, .int .i64 0, .int .i64 0, .int .i64 0, .int .i64 0], .int .i64 RC]) (by simp [results, Tryd.results6, go_sem]) rfl ⟨rfl, HW.out⟩
set_option maxHeartbeats 2000000 in
theorem specQuote_short (a : Option Addr) (n cap : Nat) (zs : List Int) (w : World) (hn : zs.length = n) (ha : Arr w a zs) (hm : n ≤ 1048576) (hc : n ≤ cap) (h : rhC zs = 0) (sz : Nat) (hsz : ihl zs = (sz : Int)) (hs1 : sz ≤ 60) (hs : (n : Int) < (sz : Int) + 8) :
    Calls Tryd.prog 6 #[.slice a n cap] w fun e w' => e = .returned (.tuple #[.agg #[.int .i64 0, .int .i64 0, .int .i64 0, .int .i64 0, .int .i64 0, .int .i64 0, .int .i64 0], .int .i64 2]) ∧ Below w.heap.size w w' := by
  have HR := hide (Keep.new w quZ)
  have HW := hide ((Below.refl w.heap.size w).alloc (Nat.le_refl _) quZ)
  have CR := hide (fun W (hb : Below w.heap.size w W) => by have q := readHead_any a n cap zs W hn (ha.below hb (Nat.le_refl _)) hm hc; rw [show rhN zs = (sz : Int) by unfold rhN; rw [h, if_pos rfl, hsz], h] at q; exact q)
  clear ha hn h hsz
  go_enter Tryd.func6, Tryd.ntmps6
  go_wp2_with fail
  refine (CR.out _ HW.out).mono ?_
  rintro e w1 ⟨rfl, hw1⟩
  rw [hw1]
  clear hw1
  go_wp2_with fail
  exact bodyPost_ret (v := .tuple #[.agg #[.int .i64 0, .int .i64 0, .int .i64 0, .int .i64 0, .int .i64 0, .int .i64 0, .int .i64 0], .int .i64 2]) (by simp [results, Tryd.results6, go_sem]) rfl ⟨rfl, HW.out⟩
abbrev In1 (w w' : World) (b off : Nat) (y : Int) : Prop := Below w.heap.size w w' ∧ b < w.heap.size ∧ w'.cell? ⟨b, off + 9, none⟩ = some (.int .u8 y)
theorem In1.drew {w w' : World} {b off : Nat} {y : Int} (h : In1 w w' b off y) : In1 w w'.drew b off y := ⟨h.1.drew, h.2⟩
theorem In1.seven {w W : World} {b off : Nat} {y : Int} {u0 u1 u2 u3 u4 u5 u6 : Value} (h : In1 w W b off y) : In1 w (((((((W.setCell ⟨w.heap.size, 0, none⟩ u0).setCell ⟨w.heap.size, 1, none⟩ u1).setCell ⟨w.heap.size, 2, none⟩ u2).setCell ⟨w.heap.size, 3, none⟩ u3).setCell ⟨w.heap.size, 4, none⟩ u4).setCell ⟨w.heap.size, 5, none⟩ u5).setCell ⟨w.heap.size, 6, none⟩ u6) b off y := by
  have hb := below_7 (u0 := u0) (u1 := u1) (u2 := u2) (u3 := u3) (u4 := u4) (u5 := u5) (u6 := u6) h.1 (Nat.le_refl _)
  exact ⟨hb, h.2.1, by rw [hb.cell (p := ⟨b, off + 9, none⟩) h.2.1, ← h.1.cell (p := ⟨b, off + 9, none⟩) h.2.1]; exact h.2.2⟩
set_option maxHeartbeats 8000000 in
theorem specQuote_good (b off n cap : Nat) (zs : List Int) (w : World) (hn : zs.length = n) (ha : Arr w (some ⟨b, off, none⟩) zs) (hm : n ≤ 1048576) (hc : n ≤ cap) (h : rhC zs = 0) (sz : Nat) (hsz : ihl zs = (sz : Int)) (hs0 : 20 ≤ sz) (hs1 : sz ≤ 60) (hs : sz + 8 ≤ n) :
    Calls Tryd.prog 6 #[.slice (some ⟨b, off, none⟩) n cap] w fun e w' => e = .returned (.tuple #[.agg #[.int .i64 (zs.getD 9 0), .int .i64 (tnum ((zs.drop 12).take 4)), .int .i64 (tnum ((zs.drop 16).take 4)), .int .i64 (tnum ((zs.drop 4).take 2)), .int .i64 (tnum ((zs.drop sz).take 2)), .int .i64 (tnum ((zs.drop (sz + 2)).take 2)), .int .i64 (tnum ((zs.drop (sz + 4)).take 4))], .int .i64 0]) ∧ Below w.heap.size w w' := by
  have HR := hide (Keep.new w quZ)
  have HW := hide ((Below.refl w.heap.size w).alloc (Nat.le_refl _) quZ)
  have CR := hide (fun W (hb : Below w.heap.size w W) => by have q := readHead_any (some ⟨b, off, none⟩) n cap zs W hn (ha.below hb (Nat.le_refl _)) hm hc; rw [show rhN zs = (sz : Int) by unfold rhN; rw [h, if_pos rfl, hsz], h] at q; exact q)
  have nm : ∀ (p k c : Nat), p + k ≤ n → k ≤ 6 → Hid (∀ (W : World), Below w.heap.size w W → Calls Tryd.prog 23 #[.slice (some ⟨b, off + p, none⟩) k c] W fun e w' => e = .returned (.int .i64 (tnum ((zs.drop p).take k))) ∧ w' = W) := fun p k c hp hk => hide (fun W hb => l03Num_walk (some ⟨b, off + p, none⟩) k c ((zs.drop p).take k) W (by rw [List.length_take, List.length_drop]; omega) (((ha.below hb (Nat.le_refl _)).drop p).take k) (by omega))
  have N1 := nm 12 4 (cap - 12) (by omega) (by omega)
  have N2 := nm 16 4 (cap - 16) (by omega) (by omega)
  have N3 := nm 4 2 (cap - 4) (by omega) (by omega)
  have N4 := nm sz 2 (cap - sz) (by omega) (by omega)
  have N5 := nm (sz + 2) 2 (cap - sz - 2) (by omega) (by omega)
  have N6 := nm (sz + 4) 4 (cap - sz - 4) (by omega) (by omega)
  have s0 : ∀ w : World, (Instr.slice 22 (.slice (some ⟨b, off, none⟩) n cap) (some (.int .i64 (sz : Int))) (some (.int .i64 ((sz : Int) + 8))) none).run Tryd.prog w = .ok (.slice (some ⟨b, off + sz, none⟩) 8 (cap - sz)) w := fun w => by
    have q := sl_part b off n cap sz (sz + 8) (by omega) (by omega) (by omega) w
    rw [show sz + 8 - sz = 8 by omega] at q
    exact q
  have s1 : ∀ w : World, (Instr.slice 22 (.slice (some ⟨b, off, none⟩) n cap) (some (.int .i64 12)) (some (.int .i64 16)) none).run Tryd.prog w = .ok (.slice (some ⟨b, off + 12, none⟩) 4 (cap - 12)) w := sl_part b off n cap 12 16 (by omega) (by omega) (by omega)
  have s2 : ∀ w : World, (Instr.slice 22 (.slice (some ⟨b, off, none⟩) n cap) (some (.int .i64 16)) (some (.int .i64 20)) none).run Tryd.prog w = .ok (.slice (some ⟨b, off + 16, none⟩) 4 (cap - 16)) w := sl_part b off n cap 16 20 (by omega) (by omega) (by omega)
  have s3 : ∀ w : World, (Instr.slice 22 (.slice (some ⟨b, off, none⟩) n cap) (some (.int .i64 4)) (some (.int .i64 6)) none).run Tryd.prog w = .ok (.slice (some ⟨b, off + 4, none⟩) 2 (cap - 4)) w := sl_part b off n cap 4 6 (by omega) (by omega) (by omega)
  have s4 : ∀ w : World, (Instr.slice 22 (.slice (some ⟨b, off + sz, none⟩) 8 (cap - sz)) none (some (.int .i64 2)) none).run Tryd.prog w = .ok (.slice (some ⟨b, off + sz, none⟩) 2 (cap - sz)) w := sl_to b (off + sz) 8 (cap - sz) 2 (by omega) (by omega)
  have s5 : ∀ w : World, (Instr.slice 22 (.slice (some ⟨b, off + sz, none⟩) 8 (cap - sz)) (some (.int .i64 2)) (some (.int .i64 4)) none).run Tryd.prog w = .ok (.slice (some ⟨b, off + (sz + 2), none⟩) 2 (cap - sz - 2)) w := fun w => by
    have q := sl_part b (off + sz) 8 (cap - sz) 2 4 (by omega) (by omega) (by omega) w
    rw [Nat.add_assoc] at q
    exact q
  have s6 : ∀ w : World, (Instr.slice 22 (.slice (some ⟨b, off + sz, none⟩) 8 (cap - sz)) (some (.int .i64 4)) none none).run Tryd.prog w = .ok (.slice (some ⟨b, off + (sz + 4), none⟩) 4 (cap - sz - 4)) w := fun w => by
    have q := sl_from b (off + sz) 8 (cap - sz) 4 (by omega) (by omega) w
    rw [Nat.add_assoc] at q
    exact q
  obtain ⟨b', off', e, hlt, q9⟩ := ha.2 9 (by omega)
  cases e
  obtain ⟨z0a, z0b⟩ := getD_bd ha.1 9
  clear nm hn ha h hsz
  generalize zs.getD 9 0 = y at *
  generalize tnum ((zs.drop 12).take 4) = y1 at *
  generalize tnum ((zs.drop 16).take 4) = y2 at *
  generalize tnum ((zs.drop 4).take 2) = y3 at *
  generalize tnum ((zs.drop sz).take 2) = y4 at *
  generalize tnum ((zs.drop (sz + 2)).take 2) = y5 at *
  generalize tnum ((zs.drop (sz + 4)).take 4) = y6 at *
  generalize off + 12 = o12 at *
  generalize off + 16 = o16 at *
  generalize off + 4 = o4 at *
  generalize off + (sz + 2) = os2 at *
  generalize off + (sz + 4) = os4 at *
  generalize off + sz = os at *
  generalize cap - 12 = c12 at *
  generalize cap - 16 = c16 at *
  generalize cap - 4 = c4 at *
  generalize cap - sz - 2 = cs2 at *
  generalize cap - sz - 4 = cs4 at *
  generalize cap - sz = cs at *
  have hlen : ¬ (n : Int) < (sz : Int) + 8 := by omega
  go_enter Tryd.func6, Tryd.ntmps6
  go_wp2_with fail
  generalize w.alloc quZ = W at *
  refine (CR.out _ HW.out).mono ?_
  rintro e w1 ⟨rfl, hw1⟩
  rw [hw1]
  clear hw1
  have HI : Hid (In1 w W b off y) := hide ⟨HW.out, hlt, by rw [HW.out.cell (p := ⟨b, off + 9, none⟩) hlt]; exact q9⟩
  have e0 : IntKind.i64.wrap y = y := wrap_i64' _ z0a (by omega)
  have hl9 : (9 : Int) < (n : Int) := by omega
  clear q9 CR
  go_wp2_with fail
  have r0 : W.cell? ⟨w.heap.size, 0, none⟩ = some (.int .i64 0) := cell_of_row _ _ 0 _ _ _ HR.out.here
  have r1 : W.cell? ⟨w.heap.size, 1, none⟩ = some (.int .i64 0) := cell_of_row _ _ 1 _ _ _ HR.out.here
  have r2 : W.cell? ⟨w.heap.size, 2, none⟩ = some (.int .i64 0) := cell_of_row _ _ 2 _ _ _ HR.out.here
  have r3 : W.cell? ⟨w.heap.size, 3, none⟩ = some (.int .i64 0) := cell_of_row _ _ 3 _ _ _ HR.out.here
  have r4 : W.cell? ⟨w.heap.size, 4, none⟩ = some (.int .i64 0) := cell_of_row _ _ 4 _ _ _ HR.out.here
  have r5 : W.cell? ⟨w.heap.size, 5, none⟩ = some (.int .i64 0) := cell_of_row _ _ 5 _ _ _ HR.out.here
  have r6 : W.cell? ⟨w.heap.size, 6, none⟩ = some (.int .i64 0) := cell_of_row _ _ 6 _ _ _ HR.out.here
  have rf : ∀ q, W.frozen? ⟨w.heap.size, q, none⟩ = false := fun q => frozen_of_row _ _ q _ _ HR.out.here
  go_region_held3 (fun w' => In1 w w' b off y) (with_reducible first | assumption | exact HI.out.drew | exact (In1.seven HI.out).drew)
    (first
      | (go_at_call_of 23 (Value.slice (some ⟨b, o12, none⟩) 4 c12); refine (N1.out _ (by assumption : In1 w _ b off y).1).mono ?_; rintro r w' ⟨rfl, rfl⟩)
      | (go_at_call_of 23 (Value.slice (some ⟨b, o16, none⟩) 4 c16); refine (N2.out _ (by assumption : In1 w _ b off y).1).mono ?_; rintro r w' ⟨rfl, rfl⟩)
      | (go_at_call_of 23 (Value.slice (some ⟨b, o4, none⟩) 2 c4); refine (N3.out _ (by assumption : In1 w _ b off y).1).mono ?_; rintro r w' ⟨rfl, rfl⟩)
      | (go_at_call_of 23 (Value.slice (some ⟨b, os, none⟩) 2 cs); refine (N4.out _ (by assumption : In1 w _ b off y).1).mono ?_; rintro r w' ⟨rfl, rfl⟩)
      | (go_at_call_of 23 (Value.slice (some ⟨b, os2, none⟩) 2 cs2); refine (N5.out _ (by assumption : In1 w _ b off y).1).mono ?_; rintro r w' ⟨rfl, rfl⟩)
      | (go_at_call_of 23 (Value.slice (some ⟨b, os4, none⟩) 4 cs4); refine (N6.out _ (by assumption : In1 w _ b off y).1).mono ?_; rintro r w' ⟨rfl, rfl⟩))
  all_goals go_wp2_with fail
  all_goals exact bodyPost_ret (v := .tuple #[.agg #[.int .i64 y, .int .i64 y1, .int .i64 y2, .int .i64 y3, .int .i64 y4, .int .i64 y5, .int .i64 y6], .int .i64 0]) (by simp [results, Tryd.results6, go_sem, r0, r1, r2, r3, r4, r5, r6]) rfl ⟨rfl, (below_7 HI.out.1 (Nat.le_refl _)).drew⟩
theorem rh_size {zs : List Int} (hz : ∀ z ∈ zs, 0 ≤ z ∧ z ≤ 255) (h : rhC zs = 0) : 20 ≤ ihl zs ∧ ihl zs ≤ (zs.length : Int) ∧ ihl zs ≤ 60 := by
  have h' := h
  unfold rhC at h'
  split at h'
  · cases h'
  · split at h'
    · cases h'
    · split at h'
      · cases h'
      · rename_i hh
        have := getD_bd hz 0
        refine ⟨by omega, by omega, ?_⟩
        unfold ihl
        omega
/-- ReadQuote of the model. -/
theorem specReadQuote (zs : List Int) (Pre : World → Prop) : ReadQuoteP 6 Pre zs (rqI zs (zs.getD 9 0)) (rqI zs (tnum ((zs.drop 12).take 4))) (rqI zs (tnum ((zs.drop 16).take 4))) (rqI zs (tnum ((zs.drop 4).take 2))) (rqI zs (tnum ((zs.drop (rqS zs)).take 2))) (rqI zs (tnum ((zs.drop (rqS zs + 2)).take 2))) (rqI zs (tnum ((zs.drop (rqS zs + 4)).take 4))) (rqC zs) := by
  intro a n cap W hn ha hc hm _
  by_cases h : rhC zs = 0
  · obtain ⟨h1, h2, h3⟩ := rh_size ha.1 h
    have hsz : ihl zs = ((rqS zs : Nat) : Int) := by unfold rqS; omega
    by_cases hs : (zs.length : Int) < ihl zs + 8
    · have hC : rqC zs = 2 := by unfold rqC; rw [if_neg (by rw [h]; simp), if_pos hs]
      have hI : ∀ x, rqI zs x = 0 := fun x => by unfold rqI; rw [hC]; rfl
      simp only [hI, hC]
      exact specQuote_short a n cap zs W hn ha hm hc h _ hsz (by omega) (by omega)
    · have hC : rqC zs = 0 := by unfold rqC; rw [if_neg (by rw [h]; simp), if_neg hs]
      have hI : ∀ x, rqI zs x = x := fun x => by unfold rqI; rw [hC]; rfl
      simp only [hI, hC]
      obtain ⟨b, off, rfl, _⟩ := ha.2 0 (by omega)
      exact specQuote_good b off n cap zs W hn ha hm hc h _ hsz (by omega) (by omega) (by omega)
  · have hC : rqC zs = rhC zs := by unfold rqC; rw [if_pos h]
    have hI : ∀ x, rqI zs x = 0 := fun x => by unfold rqI; rw [hC, if_neg h]
    simp only [hI, hC]
    exact specQuote_head a n cap zs W hn ha hm hc h
end Go.Proofs.YtakoagfeiolkjaaDoor
