/-
At every input the law FnExactReadPrefix of the landed program answers true, and its arguments read afterwards as before.
No conditions.
-/
import Derived.Test.YtmgjagajcmeikahRows
import Derived.WalkKit
import Derived.ProofKit
import Derived.OpenShut
import Derived.Test.YtmgjagajcmeikahPref
import Derived.Test.YtmgjagajcmeikahRows
import Derived.ShutString
import Derived.Below
namespace Go.Proofs.Ytmgjagajcmeikah
open Go.ChangeShapes Go.WideShapes Go.ChangeAt Go.RowKit
set_option linter.unusedVariables false
theorem pair_cells {w : World} {g t : Nat} {x y : Value} (h : w.heap[g]? = some (.cells #[x, y] t)) : w.cell? ⟨g, 0, none⟩ = some x ∧ w.cell? ⟨g, 1, none⟩ = some y ∧ ∀ o, w.frozen? ⟨g, o, none⟩ = false :=
  ⟨cell_of_row w g 0 _ _ _ h, cell_of_row w g 1 _ _ _ h, fun o => frozen_of_row w g o _ _ h⟩
/-- The result's cell is as it was laid. -/
def Res (w0 w : World) : Prop := Below w0.heap.size w0 w ∧ w0.heap.size < w.heap.size ∧ w.heap[w0.heap.size]? = some (.cells #[.int .i64 0, .int .i64 0] 23)
theorem Res.start (w0 : World) : Res w0 (w0.alloc (.cells #[.int .i64 0, .int .i64 0] 23)) :=
  ⟨(Below.refl _ _).alloc (Nat.le_refl _) _, by rw [World.size_alloc]; omega, heap_alloc_new _ _⟩
theorem Res.below {w0 w w' : World} (h : Res w0 w) (hb : Below w.heap.size w w') : Res w0 w' :=
  ⟨h.1.trans (hb.mono h.1.size), by have := hb.size; have := h.2.1; omega, by rw [hb.block _ h.2.1]; exact h.2.2⟩
theorem Res.cells {w0 w : World} (h : Res w0 w) : w.cell? ⟨w0.heap.size, 0, none⟩ = some (.int .i64 0) ∧ w.cell? ⟨w0.heap.size, 1, none⟩ = some (.int .i64 0) ∧ (∀ o, w.frozen? ⟨w0.heap.size, o, none⟩ = false) := pair_cells h.2.2
set_option maxHeartbeats 1000000 in
theorem pref_ad (l a b : List UInt8) (m : Bool) (w : World) (hcut : ∀ w, Calls Try.prog 11 #[.string (bs l), .string (bs [47])] w fun e w' => e = .returned (.tuple #[.string (bs a), .string (bs b), .bool m]) ∧ Below w.heap.size w w') (hla : a.length ≤ 1048576) (hlb : b.length ≤ 1048576) (hn : pfOK l = false) (had : adOK a = false) :
    Calls Try.prog 5 #[.string (bs l)] w fun e w' => e = .returned (.tuple #[.agg #[.int .i64 (pfA l), .int .i64 (pfB l)], .int .i64 (pfC l)]) ∧ Below w.heap.size w w' := by
  have HC := hide hcut
  have HA := hide (fun w => addr_walk a w hla)
  rw [adX_no had, adC_no had] at HA
  clear had
  obtain ⟨p1, p2, p3⟩ := pf_no hn
  rw [p1, p2, p3]
  clear hn p1 p2 p3
  clear hcut
  generalize bs l = s at *
  generalize bs a = s1 at *
  generalize bs b = s2 at *
  have HR := hide (Res.start w)
  go_enter Try.func5, Try.ntmps5
  go_wp2_with fail
  generalize w.alloc (.cells #[.int .i64 0, .int .i64 0] 23) = W at *
  refine (HC.out _).mono ?_
  rintro e w1 ⟨rfl, hb1⟩
  go_wp2_with fail
  refine (HA.out _).mono ?_
  rintro e w2 ⟨rfl, hb2⟩
  have HR2 := hide ((HR.out.below hb1).below hb2)
  clear HR hb1 hb2
  obtain ⟨d0, d1, df⟩ := HR2.out.cells
  go_wp2_with fail
  exact bodyPost_ret (v := .tuple #[.agg #[.int .i64 0, .int .i64 0], .int .i64 6]) (by simp [results, Try.results5, go_sem, d0, d1]) rfl ⟨rfl, (HR2.out.1.setCell (Nat.le_refl _) _).setCell (Nat.le_refl _) _⟩
set_option maxHeartbeats 1000000 in
theorem pref_num (l a b : List UInt8) (m : Bool) (w : World) (hcut : ∀ w, Calls Try.prog 11 #[.string (bs l), .string (bs [47])] w fun e w' => e = .returned (.tuple #[.string (bs a), .string (bs b), .bool m]) ∧ Below w.heap.size w w') (hla : a.length ≤ 1048576) (hlb : b.length ≤ 1048576) (hn : pfOK l = false) (had : adOK a = true) (hnum : numOK b 32 = false) :
    Calls Try.prog 5 #[.string (bs l)] w fun e w' => e = .returned (.tuple #[.agg #[.int .i64 (pfA l), .int .i64 (pfB l)], .int .i64 (pfC l)]) ∧ Below w.heap.size w w' := by
  have HC := hide hcut
  have HA := hide (fun w => addr_walk a w hla)
  have hax := adX_bd a
  rw [adC_yes had] at HA
  clear had
  have HD := hide (fun w => decimal_no b 32 w hlb (by omega) hnum)
  clear hnum
  generalize adX a = x at *
  obtain ⟨p1, p2, p3⟩ := pf_no hn
  rw [p1, p2, p3]
  clear hn p1 p2 p3
  clear hcut
  generalize bs l = s at *
  generalize bs a = s1 at *
  generalize bs b = s2 at *
  have HR := hide (Res.start w)
  go_enter Try.func5, Try.ntmps5
  go_wp2_with fail
  generalize w.alloc (.cells #[.int .i64 0, .int .i64 0] 23) = W at *
  refine (HC.out _).mono ?_
  rintro e w1 ⟨rfl, hb1⟩
  go_wp2_with fail
  refine (HA.out _).mono ?_
  rintro e w2 ⟨rfl, hb2⟩
  have HR2 := hide ((HR.out.below hb1).below hb2)
  clear HR hb1 hb2
  go_wp2_with fail
  refine (HD.out _).mono ?_
  rintro e w3 ⟨rfl, hw3⟩
  rw [hw3]
  clear hw3
  have hba := (Below.refl w2.heap.size w2).alloc (Nat.le_refl _) (.cells #[.int .i64 x, .int .i64 0] 23)
  have HR3 := hide (HR2.out.below hba)
  obtain ⟨d0, d1, df⟩ := HR3.out.cells
  go_wp2_with fail
  exact bodyPost_ret (v := .tuple #[.agg #[.int .i64 0, .int .i64 0], .int .i64 6]) (by simp [results, Try.results5, go_sem, d0, d1]) rfl ⟨rfl, (HR3.out.1.setCell (Nat.le_refl _) _).setCell (Nat.le_refl _) _⟩
set_option maxHeartbeats 1000000 in
theorem pref_bad (l a b : List UInt8) (m : Bool) (w : World) (hcut : ∀ w, Calls Try.prog 11 #[.string (bs l), .string (bs [47])] w fun e w' => e = .returned (.tuple #[.string (bs a), .string (bs b), .bool m]) ∧ Below w.heap.size w w') (hla : a.length ≤ 1048576) (hlb : b.length ≤ 1048576) (hn : pfOK l = false) (had : adOK a = true) (hnum : numOK b 32 = true) (hp : prefB (adX a) (numV b) = false) :
    Calls Try.prog 5 #[.string (bs l)] w fun e w' => e = .returned (.tuple #[.agg #[.int .i64 (pfA l), .int .i64 (pfB l)], .int .i64 (pfC l)]) ∧ Below w.heap.size w w' := by
  have HC := hide hcut
  have HA := hide (fun w => addr_walk a w hla)
  have hax := adX_bd a
  rw [adC_yes had] at HA
  clear had
  have HD := hide (fun w => decimal_yes b 32 w hlb (by omega) hnum)
  have HV := hide (fun w => valid_walk (adX a) (numV b) w)
  rw [hp] at HV
  clear hnum hp
  generalize adX a = x at *
  generalize numV b = y at *
  obtain ⟨p1, p2, p3⟩ := pf_no hn
  rw [p1, p2, p3]
  clear hn p1 p2 p3
  clear hcut
  generalize bs l = s at *
  generalize bs a = s1 at *
  generalize bs b = s2 at *
  have HR := hide (Res.start w)
  go_enter Try.func5, Try.ntmps5
  go_wp2_with fail
  generalize w.alloc (.cells #[.int .i64 0, .int .i64 0] 23) = W at *
  refine (HC.out _).mono ?_
  rintro e w1 ⟨rfl, hb1⟩
  go_wp2_with fail
  refine (HA.out _).mono ?_
  rintro e w2 ⟨rfl, hb2⟩
  have HR2 := hide ((HR.out.below hb1).below hb2)
  clear HR hb1 hb2
  go_wp2_with fail
  refine (HD.out _).mono ?_
  rintro e w3 ⟨rfl, hw3⟩
  rw [hw3]
  clear hw3
  have hba := (Below.refl w2.heap.size w2).alloc (Nat.le_refl _) (.cells #[.int .i64 x, .int .i64 y] 23)
  have HR3 := hide (HR2.out.below hba)
  obtain ⟨hbB, hc0, hc1⟩ := box_facts w2 (.int .i64 x) (.int .i64 y) 23
  have hsB : w2.heap.size < (w2.alloc (.cells #[.int .i64 x, .int .i64 y] 23)).heap.size := by rw [World.size_alloc]; omega
  go_wp2_with fail
  generalize w2.alloc (.cells #[.int .i64 x, .int .i64 y] 23) = W3 at *
  refine (HV.out _).mono ?_
  rintro e w4 ⟨rfl, hb4⟩
  have HR4 := hide (HR3.out.below hb4)
  obtain ⟨d0, d1, df⟩ := HR4.out.cells
  have g0 : w4.cell? ⟨w2.heap.size, 0, none⟩ = some (.int .i64 x) := by rw [hb4.cell (p := ⟨w2.heap.size, 0, none⟩) hsB]; exact hc0
  have g1 : w4.cell? ⟨w2.heap.size, 1, none⟩ = some (.int .i64 y) := by rw [hb4.cell (p := ⟨w2.heap.size, 1, none⟩) hsB]; exact hc1
  clear hc0 hc1
  go_wp2_with fail
  exact bodyPost_ret (v := .tuple #[.agg #[.int .i64 0, .int .i64 0], .int .i64 6]) (by simp [results, Try.results5, go_sem, d0, d1]) rfl ⟨rfl, (HR4.out.1.setCell (Nat.le_refl _) _).setCell (Nat.le_refl _) _⟩
set_option maxHeartbeats 1000000 in
theorem pref_good (l a b : List UInt8) (m : Bool) (w : World) (hcut : ∀ w, Calls Try.prog 11 #[.string (bs l), .string (bs [47])] w fun e w' => e = .returned (.tuple #[.string (bs a), .string (bs b), .bool m]) ∧ Below w.heap.size w w') (hla : a.length ≤ 1048576) (hlb : b.length ≤ 1048576) (hy : pfA l = adX a ∧ pfB l = numV b ∧ pfC l = 0) (had : adOK a = true) (hnum : numOK b 32 = true) (hp : prefB (adX a) (numV b) = true) :
    Calls Try.prog 5 #[.string (bs l)] w fun e w' => e = .returned (.tuple #[.agg #[.int .i64 (pfA l), .int .i64 (pfB l)], .int .i64 (pfC l)]) ∧ Below w.heap.size w w' := by
  have HC := hide hcut
  have HA := hide (fun w => addr_walk a w hla)
  have hax := adX_bd a
  rw [adC_yes had] at HA
  clear had
  have HD := hide (fun w => decimal_yes b 32 w hlb (by omega) hnum)
  have HV := hide (fun w => valid_walk (adX a) (numV b) w)
  rw [hp] at HV
  clear hnum hp
  rw [hy.1, hy.2.1, hy.2.2]
  clear hy
  generalize adX a = x at *
  generalize numV b = y at *

  clear hcut
  generalize bs l = s at *
  generalize bs a = s1 at *
  generalize bs b = s2 at *
  have HR := hide (Res.start w)
  go_enter Try.func5, Try.ntmps5
  go_wp2_with fail
  generalize w.alloc (.cells #[.int .i64 0, .int .i64 0] 23) = W at *
  refine (HC.out _).mono ?_
  rintro e w1 ⟨rfl, hb1⟩
  go_wp2_with fail
  refine (HA.out _).mono ?_
  rintro e w2 ⟨rfl, hb2⟩
  have HR2 := hide ((HR.out.below hb1).below hb2)
  clear HR hb1 hb2
  go_wp2_with fail
  refine (HD.out _).mono ?_
  rintro e w3 ⟨rfl, hw3⟩
  rw [hw3]
  clear hw3
  have hba := (Below.refl w2.heap.size w2).alloc (Nat.le_refl _) (.cells #[.int .i64 x, .int .i64 y] 23)
  have HR3 := hide (HR2.out.below hba)
  obtain ⟨hbB, hc0, hc1⟩ := box_facts w2 (.int .i64 x) (.int .i64 y) 23
  have hsB : w2.heap.size < (w2.alloc (.cells #[.int .i64 x, .int .i64 y] 23)).heap.size := by rw [World.size_alloc]; omega
  go_wp2_with fail
  generalize w2.alloc (.cells #[.int .i64 x, .int .i64 y] 23) = W3 at *
  refine (HV.out _).mono ?_
  rintro e w4 ⟨rfl, hb4⟩
  have HR4 := hide (HR3.out.below hb4)
  obtain ⟨d0, d1, df⟩ := HR4.out.cells
  have g0 : w4.cell? ⟨w2.heap.size, 0, none⟩ = some (.int .i64 x) := by rw [hb4.cell (p := ⟨w2.heap.size, 0, none⟩) hsB]; exact hc0
  have g1 : w4.cell? ⟨w2.heap.size, 1, none⟩ = some (.int .i64 y) := by rw [hb4.cell (p := ⟨w2.heap.size, 1, none⟩) hsB]; exact hc1
  clear hc0 hc1
  go_wp2_with fail
  exact bodyPost_ret (v := .tuple #[.agg #[.int .i64 x, .int .i64 y], .int .i64 0]) (by simp [results, Try.results5, go_sem, d0, d1]) rfl ⟨rfl, (HR4.out.1.setCell (Nat.le_refl _) _).setCell (Nat.le_refl _) _⟩
theorem pref_walk (l : List UInt8) (w : World) (hl : l.length ≤ 1048576) :
    Calls Try.prog 5 #[.string (bs l)] w fun e w' => e = .returned (.tuple #[.agg #[.int .i64 (pfA l), .int .i64 (pfB l)], .int .i64 (pfC l)]) ∧ Below w.heap.size w w' := by
  by_cases hm : (47 : UInt8) ∈ l
  · obtain ⟨a, b, rfl, hna⟩ := List.eq_append_cons_of_mem hm
    have hla : a.length ≤ 1048576 ∧ b.length ≤ 1048576 := by rw [List.length_append, List.length_cons] at hl; omega
    have hk := pf_cut (b := b) hna
    have hc := fun w => cut_yes a b 47 w hl hna
    cases had : adOK a with
    | false => exact pref_ad _ a b true w hc hla.1 hla.2 (by rw [hk, had]; rfl) had
    | true =>
      cases hnum : numOK b 32 with
      | false => exact pref_num _ a b true w hc hla.1 hla.2 (by rw [hk, had, hnum]; rfl) had hnum
      | true =>
        cases hp : prefB (adX a) (numV b) with
        | false => exact pref_bad _ a b true w hc hla.1 hla.2 (by rw [hk, had, hnum, hp]; rfl) had hnum hp
        | true =>
          have hok : pfOK (a ++ 47 :: b) = true := by rw [hk, had, hnum, hp]; rfl
          exact pref_good _ a b true w hc hla.1 hla.2 (pf_yes (pf_split hna hok) hok) had hnum hp
  · have hn := pf_none hm
    have hc := fun w => cut_no l 47 w hm
    cases had : adOK l with
    | false => exact pref_ad _ l [] false w hc hl (by simp) hn had
    | true => exact pref_num _ l [] false w hc hl (by simp) hn had rfl

set_option maxHeartbeats 1000000 in
theorem spref_big (l : List UInt8) (w : World) (hbig : 18 < l.length) (hl : l.length ≤ 1048576) (hn : pfOK l = false) :
    Calls Try.prog 4 #[.string (bs l)] w fun e w' => e = .returned (.tuple #[.agg #[.int .i64 (pfA l), .int .i64 (pfB l)], .int .i64 (pfC l)]) ∧ Below w.heap.size w w' := by
  have hsz := bs_size l
  obtain ⟨p1, p2, p3⟩ := pf_no hn
  rw [p1, p2, p3]
  clear hn p1 p2 p3
  generalize bs l = s at *
  have HR := hide (Res.start w)
  obtain ⟨d0, d1, df⟩ := HR.out.cells
  go_enter Try.func4, Try.ntmps4
  go_wp2_with fail
  exact bodyPost_ret (v := .tuple #[.agg #[.int .i64 0, .int .i64 0], .int .i64 6]) (by simp [results, Try.results4, go_sem, d0, d1]) rfl ⟨rfl, HR.out.1⟩

set_option maxHeartbeats 1000000 in
theorem spref_len (l : List UInt8) (w : World) (hl : l.length ≤ 18) (h2 : ¬ (splitL 47 l).length = 2) (hn : pfOK l = false) :
    Calls Try.prog 4 #[.string (bs l)] w fun e w' => e = .returned (.tuple #[.agg #[.int .i64 (pfA l), .int .i64 (pfB l)], .int .i64 (pfC l)]) ∧ Below w.heap.size w w' := by
  have hsz := bs_size l
  have HC := hide (fun w => l02Cut_walk l 47 w (by omega))
  have HNE := hide (split_ne 47 l)
  have hne : (((splitL 47 l).length : Int) != 2) = true := by rw [bne_iff_ne]; omega
  obtain ⟨p1, p2, p3⟩ := pf_no hn
  rw [p1, p2, p3]
  clear hn p1 p2 p3
  clear h2
  generalize bs l = s at *
  generalize splitL 47 l = ps at *
  have HR := hide (Res.start w)
  go_enter Try.func4, Try.ntmps4
  go_wp2_with fail
  generalize w.alloc (.cells #[.int .i64 0, .int .i64 0] 23) = W at *
  refine (HC.out _).mono ?_
  rintro e w1 ⟨v, rfl, hown, hb1⟩
  obtain ⟨g, cap, rfl, hg, hcell⟩ := hown.at HNE.out
  clear hcell hown
  have HR1 := hide (HR.out.below hb1)
  obtain ⟨d0, d1, df⟩ := HR1.out.cells
  go_wp2_with fail
  exact bodyPost_ret (v := .tuple #[.agg #[.int .i64 0, .int .i64 0], .int .i64 6]) (by simp [results, Try.results4, go_sem, d0, d1]) rfl ⟨rfl, (HR1.out.1.setCell (Nat.le_refl _) _).setCell (Nat.le_refl _) _⟩

set_option maxHeartbeats 1000000 in
theorem spref_ad (l a b : List UInt8) (w : World) (hl : l.length ≤ 18) (hs : splitL 47 l = [a, b]) (hn : pfOK l = false) (had : adOK a = false) :
    Calls Try.prog 4 #[.string (bs l)] w fun e w' => e = .returned (.tuple #[.agg #[.int .i64 (pfA l), .int .i64 (pfB l)], .int .i64 (pfC l)]) ∧ Below w.heap.size w w' := by
  have hsz := bs_size l
  have HC := hide (fun w => l02Cut_walk l 47 w (by omega))
  have hln := split_len 47 l
  rw [hs] at hln
  rw [hs] at HC
  simp only [List.flatten_cons, List.flatten_nil, List.append_nil, List.length_append, List.length_cons, List.length_nil] at hln
  have HA := hide (fun w => specAddr_walk a w (by omega))
  have HB := hide (fun w => number_walk b 2 w (by omega) (by omega))
  rw [adX_no had, adC_no had] at HA
  clear had
  obtain ⟨p1, p2, p3⟩ := pf_no hn
  rw [p1, p2, p3]
  clear hn p1 p2 p3

  clear hs hln
  generalize bs l = s at *
  have HR := hide (Res.start w)
  go_enter Try.func4, Try.ntmps4
  go_wp2_with fail
  generalize w.alloc (.cells #[.int .i64 0, .int .i64 0] 23) = W at *
  refine (HC.out _).mono ?_
  rintro e w1 ⟨v, rfl, hown, hb1⟩
  obtain ⟨g, cap, rfl, hg, hcell⟩ := hown.at (by simp)
  have c0 : w1.cell? ⟨g, 0, none⟩ = some (.string (bs a)) := hcell 0 (by simp)
  have c1 : w1.cell? ⟨g, 1, none⟩ = some (.string (bs b)) := hcell 1 (by simp)
  clear hcell hown
  simp only [List.length_cons, List.length_nil, Nat.zero_add, Nat.reduceAdd]
  generalize bs a = s1 at *
  generalize bs b = s2 at *
  go_wp2_with fail
  refine (HA.out _).mono ?_
  rintro e w2 ⟨rfl, hb2⟩
  have e1 : w2.cell? ⟨g, 1, none⟩ = some (.string s2) := by rw [hb2.cell (p := ⟨g, 1, none⟩) hg]; exact c1
  clear c0 c1
  go_wp2_with fail
  refine (HB.out _).mono ?_
  rintro e w3 ⟨y, rfl, hy, hb3⟩
  have HR3 := hide (((HR.out.below hb1).below hb2).below hb3)
  clear HR hb1 hb2 hb3
  have HR4 := hide (HR3.out.below ((Below.refl w3.heap.size w3).alloc (Nat.le_refl _) (.cells #[.int .i64 0, .int .i64 y] 23)))
  obtain ⟨d0, d1, df⟩ := HR4.out.cells
  go_wp2_with fail
  exact bodyPost_ret (v := .tuple #[.agg #[.int .i64 0, .int .i64 0], .int .i64 6]) (by simp [results, Try.results4, go_sem, d0, d1]) rfl ⟨rfl, (HR4.out.1.setCell (Nat.le_refl _) _).setCell (Nat.le_refl _) _⟩

set_option maxHeartbeats 1000000 in
theorem spref_num (l a b : List UInt8) (w : World) (hl : l.length ≤ 18) (hs : splitL 47 l = [a, b]) (hn : pfOK l = false) (had : adOK a = true) (hnum : numF b 2 = false) :
    Calls Try.prog 4 #[.string (bs l)] w fun e w' => e = .returned (.tuple #[.agg #[.int .i64 (pfA l), .int .i64 (pfB l)], .int .i64 (pfC l)]) ∧ Below w.heap.size w w' := by
  have hsz := bs_size l
  have HC := hide (fun w => l02Cut_walk l 47 w (by omega))
  have hln := split_len 47 l
  rw [hs] at hln
  rw [hs] at HC
  simp only [List.flatten_cons, List.flatten_nil, List.append_nil, List.length_append, List.length_cons, List.length_nil] at hln
  have HA := hide (fun w => specAddr_walk a w (by omega))
  have HB := hide (fun w => number_walk b 2 w (by omega) (by omega))
  rw [adC_yes had] at HA
  rw [hnum] at HB
  clear had hnum
  generalize adX a = x at *
  obtain ⟨p1, p2, p3⟩ := pf_no hn
  rw [p1, p2, p3]
  clear hn p1 p2 p3

  clear hs hln
  generalize bs l = s at *
  have HR := hide (Res.start w)
  go_enter Try.func4, Try.ntmps4
  go_wp2_with fail
  generalize w.alloc (.cells #[.int .i64 0, .int .i64 0] 23) = W at *
  refine (HC.out _).mono ?_
  rintro e w1 ⟨v, rfl, hown, hb1⟩
  obtain ⟨g, cap, rfl, hg, hcell⟩ := hown.at (by simp)
  have c0 : w1.cell? ⟨g, 0, none⟩ = some (.string (bs a)) := hcell 0 (by simp)
  have c1 : w1.cell? ⟨g, 1, none⟩ = some (.string (bs b)) := hcell 1 (by simp)
  clear hcell hown
  simp only [List.length_cons, List.length_nil, Nat.zero_add, Nat.reduceAdd]
  generalize bs a = s1 at *
  generalize bs b = s2 at *
  go_wp2_with fail
  refine (HA.out _).mono ?_
  rintro e w2 ⟨rfl, hb2⟩
  have e1 : w2.cell? ⟨g, 1, none⟩ = some (.string s2) := by rw [hb2.cell (p := ⟨g, 1, none⟩) hg]; exact c1
  clear c0 c1
  go_wp2_with fail
  refine (HB.out _).mono ?_
  rintro e w3 ⟨y, rfl, hy, hb3⟩
  have HR3 := hide (((HR.out.below hb1).below hb2).below hb3)
  clear HR hb1 hb2 hb3
  have HR4 := hide (HR3.out.below ((Below.refl w3.heap.size w3).alloc (Nat.le_refl _) (.cells #[.int .i64 x, .int .i64 y] 23)))
  obtain ⟨d0, d1, df⟩ := HR4.out.cells
  go_wp2_with fail
  exact bodyPost_ret (v := .tuple #[.agg #[.int .i64 0, .int .i64 0], .int .i64 6]) (by simp [results, Try.results4, go_sem, d0, d1]) rfl ⟨rfl, (HR4.out.1.setCell (Nat.le_refl _) _).setCell (Nat.le_refl _) _⟩

set_option maxHeartbeats 1000000 in
theorem spref_bad (l a b : List UInt8) (w : World) (hl : l.length ≤ 18) (hs : splitL 47 l = [a, b]) (hn : pfOK l = false) (had : adOK a = true) (hnum : numF b 2 = true) (hp : prefB (adX a) (numV b) = false) :
    Calls Try.prog 4 #[.string (bs l)] w fun e w' => e = .returned (.tuple #[.agg #[.int .i64 (pfA l), .int .i64 (pfB l)], .int .i64 (pfC l)]) ∧ Below w.heap.size w w' := by
  have hsz := bs_size l
  have HC := hide (fun w => l02Cut_walk l 47 w (by omega))
  have hln := split_len 47 l
  rw [hs] at hln
  rw [hs] at HC
  simp only [List.flatten_cons, List.flatten_nil, List.append_nil, List.length_append, List.length_cons, List.length_nil] at hln
  have HA := hide (fun w => specAddr_walk a w (by omega))
  have HB := hide (fun w => number_walk b 2 w (by omega) (by omega))
  rw [adC_yes had] at HA
  rw [hnum] at HB
  have HV := hide (fun w => specPrefixOK_walk (adX a) (numV b) w)
  rw [hp] at HV
  clear had hnum hp
  generalize adX a = x at *
  generalize numV b = z at *
  obtain ⟨p1, p2, p3⟩ := pf_no hn
  rw [p1, p2, p3]
  clear hn p1 p2 p3

  clear hs hln
  generalize bs l = s at *
  have HR := hide (Res.start w)
  go_enter Try.func4, Try.ntmps4
  go_wp2_with fail
  generalize w.alloc (.cells #[.int .i64 0, .int .i64 0] 23) = W at *
  refine (HC.out _).mono ?_
  rintro e w1 ⟨v, rfl, hown, hb1⟩
  obtain ⟨g, cap, rfl, hg, hcell⟩ := hown.at (by simp)
  have c0 : w1.cell? ⟨g, 0, none⟩ = some (.string (bs a)) := hcell 0 (by simp)
  have c1 : w1.cell? ⟨g, 1, none⟩ = some (.string (bs b)) := hcell 1 (by simp)
  clear hcell hown
  simp only [List.length_cons, List.length_nil, Nat.zero_add, Nat.reduceAdd]
  generalize bs a = s1 at *
  generalize bs b = s2 at *
  go_wp2_with fail
  refine (HA.out _).mono ?_
  rintro e w2 ⟨rfl, hb2⟩
  have e1 : w2.cell? ⟨g, 1, none⟩ = some (.string s2) := by rw [hb2.cell (p := ⟨g, 1, none⟩) hg]; exact c1
  clear c0 c1
  go_wp2_with fail
  refine (HB.out _).mono ?_
  rintro e w3 ⟨y, rfl, hy, hb3⟩
  have HR3 := hide (((HR.out.below hb1).below hb2).below hb3)
  clear HR hb1 hb2 hb3
  have hyz := hy trivial
  subst hyz
  clear hy
  have HR4 := hide (HR3.out.below ((Below.refl w3.heap.size w3).alloc (Nat.le_refl _) (.cells #[.int .i64 x, .int .i64 y] 23)))
  obtain ⟨hbB, hc0, hc1⟩ := box_facts w3 (.int .i64 x) (.int .i64 y) 23
  have hsB : w3.heap.size < (w3.alloc (.cells #[.int .i64 x, .int .i64 y] 23)).heap.size := by rw [World.size_alloc]; omega
  go_wp2_with fail
  generalize w3.alloc (.cells #[.int .i64 x, .int .i64 y] 23) = W3 at *
  refine (HV.out _).mono ?_
  rintro e w4 ⟨rfl, hb4⟩
  have HR5 := hide (HR4.out.below hb4)
  obtain ⟨d0, d1, df⟩ := HR5.out.cells
  have g0 : w4.cell? ⟨w3.heap.size, 0, none⟩ = some (.int .i64 x) := by rw [hb4.cell (p := ⟨w3.heap.size, 0, none⟩) hsB]; exact hc0
  have g1 : w4.cell? ⟨w3.heap.size, 1, none⟩ = some (.int .i64 y) := by rw [hb4.cell (p := ⟨w3.heap.size, 1, none⟩) hsB]; exact hc1
  clear hc0 hc1
  go_wp2_with fail
  exact bodyPost_ret (v := .tuple #[.agg #[.int .i64 0, .int .i64 0], .int .i64 6]) (by simp [results, Try.results4, go_sem, d0, d1]) rfl ⟨rfl, (HR5.out.1.setCell (Nat.le_refl _) _).setCell (Nat.le_refl _) _⟩

set_option maxHeartbeats 1000000 in
theorem spref_good (l a b : List UInt8) (w : World) (hl : l.length ≤ 18) (hs : splitL 47 l = [a, b]) (hyy : pfA l = adX a ∧ pfB l = numV b ∧ pfC l = 0) (had : adOK a = true) (hnum : numF b 2 = true) (hp : prefB (adX a) (numV b) = true) :
    Calls Try.prog 4 #[.string (bs l)] w fun e w' => e = .returned (.tuple #[.agg #[.int .i64 (pfA l), .int .i64 (pfB l)], .int .i64 (pfC l)]) ∧ Below w.heap.size w w' := by
  have hsz := bs_size l
  have HC := hide (fun w => l02Cut_walk l 47 w (by omega))
  have hln := split_len 47 l
  rw [hs] at hln
  rw [hs] at HC
  simp only [List.flatten_cons, List.flatten_nil, List.append_nil, List.length_append, List.length_cons, List.length_nil] at hln
  have HA := hide (fun w => specAddr_walk a w (by omega))
  have HB := hide (fun w => number_walk b 2 w (by omega) (by omega))
  rw [adC_yes had] at HA
  rw [hnum] at HB
  have HV := hide (fun w => specPrefixOK_walk (adX a) (numV b) w)
  rw [hp] at HV
  clear had hnum hp
  rw [hyy.1, hyy.2.1, hyy.2.2]
  clear hyy
  generalize adX a = x at *
  generalize numV b = z at *
  
  clear hs hln
  generalize bs l = s at *
  have HR := hide (Res.start w)
  go_enter Try.func4, Try.ntmps4
  go_wp2_with fail
  generalize w.alloc (.cells #[.int .i64 0, .int .i64 0] 23) = W at *
  refine (HC.out _).mono ?_
  rintro e w1 ⟨v, rfl, hown, hb1⟩
  obtain ⟨g, cap, rfl, hg, hcell⟩ := hown.at (by simp)
  have c0 : w1.cell? ⟨g, 0, none⟩ = some (.string (bs a)) := hcell 0 (by simp)
  have c1 : w1.cell? ⟨g, 1, none⟩ = some (.string (bs b)) := hcell 1 (by simp)
  clear hcell hown
  simp only [List.length_cons, List.length_nil, Nat.zero_add, Nat.reduceAdd]
  generalize bs a = s1 at *
  generalize bs b = s2 at *
  go_wp2_with fail
  refine (HA.out _).mono ?_
  rintro e w2 ⟨rfl, hb2⟩
  have e1 : w2.cell? ⟨g, 1, none⟩ = some (.string s2) := by rw [hb2.cell (p := ⟨g, 1, none⟩) hg]; exact c1
  clear c0 c1
  go_wp2_with fail
  refine (HB.out _).mono ?_
  rintro e w3 ⟨y, rfl, hy, hb3⟩
  have HR3 := hide (((HR.out.below hb1).below hb2).below hb3)
  clear HR hb1 hb2 hb3
  have hyz := hy trivial
  subst hyz
  clear hy
  have HR4 := hide (HR3.out.below ((Below.refl w3.heap.size w3).alloc (Nat.le_refl _) (.cells #[.int .i64 x, .int .i64 y] 23)))
  obtain ⟨hbB, hc0, hc1⟩ := box_facts w3 (.int .i64 x) (.int .i64 y) 23
  have hsB : w3.heap.size < (w3.alloc (.cells #[.int .i64 x, .int .i64 y] 23)).heap.size := by rw [World.size_alloc]; omega
  go_wp2_with fail
  generalize w3.alloc (.cells #[.int .i64 x, .int .i64 y] 23) = W3 at *
  refine (HV.out _).mono ?_
  rintro e w4 ⟨rfl, hb4⟩
  have HR5 := hide (HR4.out.below hb4)
  obtain ⟨d0, d1, df⟩ := HR5.out.cells
  have g0 : w4.cell? ⟨w3.heap.size, 0, none⟩ = some (.int .i64 x) := by rw [hb4.cell (p := ⟨w3.heap.size, 0, none⟩) hsB]; exact hc0
  have g1 : w4.cell? ⟨w3.heap.size, 1, none⟩ = some (.int .i64 y) := by rw [hb4.cell (p := ⟨w3.heap.size, 1, none⟩) hsB]; exact hc1
  clear hc0 hc1
  go_wp2_with fail
  exact bodyPost_ret (v := .tuple #[.agg #[.int .i64 x, .int .i64 y], .int .i64 0]) (by simp [results, Try.results4, go_sem, d0, d1]) rfl ⟨rfl, (HR5.out.1.setCell (Nat.le_refl _) _).setCell (Nat.le_refl _) _⟩

theorem specPref_walk (l : List UInt8) (w : World) (hl : l.length ≤ 1048576) :
    Calls Try.prog 4 #[.string (bs l)] w fun e w' => e = .returned (.tuple #[.agg #[.int .i64 (pfA l), .int .i64 (pfB l)], .int .i64 (pfC l)]) ∧ Below w.heap.size w w' := by
  by_cases hbig : 18 < l.length
  · have hn : pfOK l = false := by
      cases e : pfOK l with
      | false => rfl
      | true => exact absurd (pf_short e) (by omega)
    exact spref_big l w hbig hl hn
  · by_cases h2 : (splitL 47 l).length = 2
    · obtain ⟨a, b, hs⟩ : ∃ a b, splitL 47 l = [a, b] := by
        match h : splitL 47 l with
        | [a, b] => exact ⟨a, b, rfl⟩
        | [] => rw [h] at h2; cases h2
        | [_] => rw [h] at h2; cases h2
        | _ :: _ :: _ :: _ => rw [h] at h2; simp at h2
      have hk := pf_two hs
      rw [pf_spec] at hk
      have hl8 : l.length ≤ 18 := by omega
      cases had : adOK a with
      | false => exact spref_ad l a b w hl8 hs (by rw [hk, had]; rfl) had
      | true =>
        cases hnum : numF b 2 with
        | false => exact spref_num l a b w hl8 hs (by rw [hk, had, hnum]; rfl) had hnum
        | true =>
          cases hp : prefB (adX a) (numV b) with
          | false => exact spref_bad l a b w hl8 hs (by rw [hk, had, hnum, hp]; rfl) had hnum hp
          | true => exact spref_good l a b w hl8 hs (pf_yes hs (by rw [hk, had, hnum, hp]; rfl)) had hnum hp
    · exact spref_len l w (by omega) h2 (pf_len h2)

theorem eqPrefix_walk (a b : Int) (w : World) :
    Calls Try.prog 6 #[.agg #[.int .i64 a, .int .i64 b], .agg #[.int .i64 a, .int .i64 b]] w fun e w' => e = .returned (.bool true) ∧ Below w.heap.size w w' := by
  go_enter Try.func6, Try.ntmps6
  go_wp2
  go_ret
  exact ⟨rfl, ((Below.refl _ _).alloc (Nat.le_refl _) _).alloc (by simp) _⟩
set_option maxHeartbeats 1000000 in
theorem walkReadPrefix (s : ByteArray) (hs : s.size ≤ maxLen) (w : World) :
    Calls Try.prog 3 #[.string s] w fun e w' => e = .returned (.bool true) ∧ Below w.heap.size w w' := by
  unfold maxLen at hs
  by_cases hbig : 1048576 < s.size
  · go_enter Try.func3, Try.ntmps3
    go_wp2
    go_ret
    exact ⟨rfl, Below.refl _ _⟩
  · have hm : s.size ≤ 1048576 := by omega
    have hll : s.data.toList.length ≤ 1048576 := by rw [← bs_size, bs_data]; exact hm
    have HS := hide (fun w => specPref_walk s.data.toList w hll)
    have HI := hide (fun w => pref_walk s.data.toList w hll)
    rw [bs_data] at HS HI
    generalize pfA s.data.toList = x at *
    generalize pfB s.data.toList = y at *
    generalize pfC s.data.toList = z at *
    clear hs hbig hll
    go_enter Try.func3, Try.ntmps3
    go_wp2_with fail
    refine (HS.out _).mono ?_
    rintro e w1 ⟨rfl, hb1⟩
    obtain ⟨hbB, hc0, hc1⟩ := box_facts w1 (.int .i64 x) (.int .i64 y) 23
    have hsB : w1.heap.size < (w1.alloc (.cells #[.int .i64 x, .int .i64 y] 23)).heap.size := by rw [World.size_alloc]; omega
    go_wp2_with fail
    generalize w1.alloc (.cells #[.int .i64 x, .int .i64 y] 23) = W1 at *
    refine (HI.out _).mono ?_
    rintro e w2 ⟨rfl, hb2⟩
    have hs2 := hb2.size
    have g0 : w2.cell? ⟨w1.heap.size, 0, none⟩ = some (.int .i64 x) := by rw [hb2.cell (p := ⟨w1.heap.size, 0, none⟩) hsB]; exact hc0
    have g1 : w2.cell? ⟨w1.heap.size, 1, none⟩ = some (.int .i64 y) := by rw [hb2.cell (p := ⟨w1.heap.size, 1, none⟩) hsB]; exact hc1
    obtain ⟨hbC, k0, k1⟩ := box_facts w2 (.int .i64 x) (.int .i64 y) 23
    have j0 : (w2.alloc (.cells #[.int .i64 x, .int .i64 y] 23)).cell? ⟨w1.heap.size, 0, none⟩ = some (.int .i64 x) := by rw [hbC.cell (p := ⟨w1.heap.size, 0, none⟩) (by show w1.heap.size < w2.heap.size; omega)]; exact g0
    have j1 : (w2.alloc (.cells #[.int .i64 x, .int .i64 y] 23)).cell? ⟨w1.heap.size, 1, none⟩ = some (.int .i64 y) := by rw [hbC.cell (p := ⟨w1.heap.size, 1, none⟩) (by show w1.heap.size < w2.heap.size; omega)]; exact g1
    clear g0 g1 hc0 hc1
    go_wp2_with fail
    generalize w2.alloc (.cells #[.int .i64 x, .int .i64 y] 23) = W2 at *
    refine (eqPrefix_walk x y _).mono ?_
    rintro e w3 ⟨rfl, hb3⟩
    go_wp2_with fail
    go_ret
    have s1 := hb1.size
    have sB := hbB.size
    have sC := hbC.size
    exact ⟨rfl, (((hb1.trans (hbB.mono s1)).trans (hb2.mono (by omega))).trans (hbC.mono (by omega))).trans (hb3.mono (by omega))⟩

open Go.ChangeMaps (open_string shut_string)
theorem own : ownKnob Try.prog.godebug = none := by kernel_rfl

set_option maxRecDepth 100000 in
theorem fnExactReadPrefix_lifted (os : Os) (started : os.Started) (H : Type) (enc : TypeId × Value → H) :
    ReturnsInHanded {} Try.checked os 3 .any (Rows.fnExactReadPrefixSpec.pre6 enc Try.prog Try.f3 Rows.fnExactReadPrefixRow.domain false) (Rows.fnExactReadPrefixSpec.post enc Try.prog Try.f3 false true false false) := by
  refine returnsInHanded_of_change (C := Try.checked) own started (by kernel_rfl) Try.func3
    (ChangeSpec.witness6 (enc := enc) (C := Try.checked) false ⟨#[], #[.string ByteArray.empty], []⟩ 8 (by kernel_rfl) (by kernel_rfl) (by kernel_rfl) (by kernel_rfl)) ?_
  intro W base args ds gs before hval0 hW hcnd _
  have hval : ∀ (j : Nat) t v, Try.f3.params[j]? = some t → args[j]? = some v → Value.okWide Try.prog W .any base t v := hval0
  have hW' := hW
  obtain ⟨p, q, hA0, hV, rfl, hfz, hnd⟩ := hW
  have hA : DataW.TrodAll enc Try.prog W 0 (fun _ => true) true Try.f3.params.toList args.toList ds p := hA0
  rw [Try.params3] at hA hval
  obtain ⟨v0, vs0, d0, ds0, p0, q0, hargs, rfl, rfl, h0, r0⟩ := trodAll_cons hA
  obtain ⟨rfl, rfl, rfl⟩ := trodAll_nil r0
  obtain rfl : args = #[v0] := by cases args; simp_all
  obtain ⟨rfl, rfl⟩ := trodVars_none hV
  obtain ⟨a0, rfl, rfl, rfl, w0⟩ := open_string Try.underlying9 (hval 0 9 v0 rfl rfl) h0
  clear hA0 hval0
  refine (walkReadPrefix a0 w0 W).mono fun e W' ⟨he, bel⟩ => ?_
  subst he
  exact ⟨_, rfl, _, _, _, [], _, [], hW', trodAll_mk1 (shut_bool Try.underlying4 _), (trodAll_cons_mk (shut_string Try.underlying9 w0) trodAll_mk0), rfl, bel.frame _, fun h => by cases h⟩

theorem fnExactReadPrefix_over : Rows.fnExactReadPrefixRow.holds Try.pinned (OpenSpec.ofChange Rows.fnExactReadPrefixSpec) :=
  OpenClaim.holds_of_wide 3 Try.f3 rfl rfl rfl rfl rfl rfl rfl ⟨rfl, rfl, rfl, rfl, rfl⟩ rfl rfl rfl rfl rfl (by kernel_rfl) Try.func3 (by kernel_rfl)
    (of_decide_eq_true (by kernel_rfl)) (by unfold Func.isWrapper; first | (rw [if_pos (by decide +kernel)]; kernel_rfl) | (rw [if_neg (by decide +kernel)]; exact ⟨rfl, rfl⟩))
    (fun os started H enc _ => fnExactReadPrefix_lifted os started H enc)

theorem fnExactReadPrefix_holds : Rows.FnExactReadPrefixSaid :=
  fnExactReadPrefix_over
end Go.Proofs.Ytmgjagajcmeikah
