/-
Contracts of functions of this seat.
-/
import Derived.Test.YtgegnkboibgbgaaRows
import Derived.WalkKit
import Derived.ProofKit
import Derived.OpenShut
import Derived.Test.YtgegnkboibgbgaaPcl
namespace Go.Proofs.Ytgegnkboibgbgaa
open Go.ChangeShapes Go.WideShapes Go.ChangeAt Go.RowKit
set_option linter.unusedVariables false
set_option maxRecDepth 100000
/-- The result's cell is as it was laid. -/
def ResQ (w0 w : World) : Prop := Below w0.heap.size w0 w ∧ w0.heap.size < w.heap.size ∧ w.heap[w0.heap.size]? = some (.cells #[.int .i64 0, .int .i64 0] 37)
theorem ResQ.start (w0 : World) : ResQ w0 (w0.alloc (.cells #[.int .i64 0, .int .i64 0] 37)) :=
  ⟨(Below.refl _ _).alloc (Nat.le_refl _) _, by rw [World.size_alloc]; omega, heap_alloc_new _ _⟩
theorem ResQ.below {w0 w w' : World} (h : ResQ w0 w) (hb : Below w.heap.size w w') : ResQ w0 w' :=
  ⟨h.1.trans (hb.mono h.1.size), by have := hb.size; have := h.2.1; omega, by rw [hb.block _ h.2.1]; exact h.2.2⟩
theorem ResQ.cells {w0 w : World} (h : ResQ w0 w) : w.cell? ⟨w0.heap.size, 0, none⟩ = some (.int .i64 0) ∧ w.cell? ⟨w0.heap.size, 1, none⟩ = some (.int .i64 0) ∧ (∀ o, w.frozen? ⟨w0.heap.size, o, none⟩ = false) := pair_cells h.2.2

set_option maxHeartbeats 1000000 in
theorem spref_big (l : List UInt8) (w : World) (hbig : 18 < l.length) (hl : l.length ≤ 1048576) (hn : pfOK l = false) :
    Calls Try.prog 25 #[.string (bs l)] w fun e w' => e = .returned (.tuple #[.agg #[.int .i64 (pfA l), .int .i64 (pfB l)], .int .i64 (pfC l)]) ∧ Below w.heap.size w w' := by
  have hsz := bs_size l
  obtain ⟨p1, p2, p3⟩ := pf_no hn
  rw [p1, p2, p3]
  clear hn p1 p2 p3
  generalize bs l = s at *
  have HR := hide (ResQ.start w)
  obtain ⟨d0, d1, df⟩ := HR.out.cells
  go_enter Try.func25, Try.ntmps25
  go_wp2_with fail
  exact bodyPost_ret (v := .tuple #[.agg #[.int .i64 0, .int .i64 0], .int .i64 6]) (by simp [results, Try.results25, go_sem, d0, d1]) rfl ⟨rfl, HR.out.1⟩

set_option maxHeartbeats 1000000 in
theorem spref_len (l : List UInt8) (w : World) (hl : l.length ≤ 18) (h2 : ¬ (splitL 47 l).length = 2) (hn : pfOK l = false) :
    Calls Try.prog 25 #[.string (bs l)] w fun e w' => e = .returned (.tuple #[.agg #[.int .i64 (pfA l), .int .i64 (pfB l)], .int .i64 (pfC l)]) ∧ Below w.heap.size w w' := by
  have hsz := bs_size l
  have HC := hide (fun w => l02Cut_walk l 47 w (by omega))
  have HNE := hide (split_ne 47 l)
  have hne : (((splitL 47 l).length : Int) != 2) = true := by rw [bne_iff_ne]; omega
  obtain ⟨p1, p2, p3⟩ := pf_no hn
  rw [p1, p2, p3]
  clear hn p1 p2 p3
  clear h2
  generalize bs l = s at *
  generalize splitL 47 l = ps at *
  have HR := hide (ResQ.start w)
  go_enter Try.func25, Try.ntmps25
  go_wp2_with fail
  generalize w.alloc (.cells #[.int .i64 0, .int .i64 0] 37) = W at *
  refine (HC.out _).mono ?_
  rintro e w1 ⟨v, rfl, hown, hb1⟩
  obtain ⟨g, cap, rfl, hg, hcell⟩ := hown.at HNE.out
  clear hcell hown
  have HR1 := hide (HR.out.below hb1)
  obtain ⟨d0, d1, df⟩ := HR1.out.cells
  go_wp2_with fail
  exact bodyPost_ret (v := .tuple #[.agg #[.int .i64 0, .int .i64 0], .int .i64 6]) (by simp [results, Try.results25, go_sem, d0, d1]) rfl ⟨rfl, (HR1.out.1.setCell (Nat.le_refl _) _).setCell (Nat.le_refl _) _⟩

set_option maxHeartbeats 1000000 in
theorem spref_ad (l a b : List UInt8) (w : World) (hl : l.length ≤ 18) (hs : splitL 47 l = [a, b]) (hn : pfOK l = false) (had : adOK a = false) :
    Calls Try.prog 25 #[.string (bs l)] w fun e w' => e = .returned (.tuple #[.agg #[.int .i64 (pfA l), .int .i64 (pfB l)], .int .i64 (pfC l)]) ∧ Below w.heap.size w w' := by
  have hsz := bs_size l
  have HC := hide (fun w => l02Cut_walk l 47 w (by omega))
  have hln := split_len 47 l
  rw [hs] at hln
  rw [hs] at HC
  simp only [List.flatten_cons, List.flatten_nil, List.append_nil, List.length_append, List.length_cons, List.length_nil] at hln
  have HA := hide (fun w => specAddr_walk a w (by omega))
  have HB := hide (fun w => number_walk b 2 w (by omega) (by omega))
  rw [adX_no had, adC_no had] at HA
  clear had
  obtain ⟨p1, p2, p3⟩ := pf_no hn
  rw [p1, p2, p3]
  clear hn p1 p2 p3

  clear hs hln
  generalize bs l = s at *
  have HR := hide (ResQ.start w)
  go_enter Try.func25, Try.ntmps25
  go_wp2_with fail
  generalize w.alloc (.cells #[.int .i64 0, .int .i64 0] 37) = W at *
  refine (HC.out _).mono ?_
  rintro e w1 ⟨v, rfl, hown, hb1⟩
  obtain ⟨g, cap, rfl, hg, hcell⟩ := hown.at (by simp)
  have c0 : w1.cell? ⟨g, 0, none⟩ = some (.string (bs a)) := hcell 0 (by simp)
  have c1 : w1.cell? ⟨g, 1, none⟩ = some (.string (bs b)) := hcell 1 (by simp)
  clear hcell hown
  simp only [List.length_cons, List.length_nil, Nat.zero_add, Nat.reduceAdd]
  generalize bs a = s1 at *
  generalize bs b = s2 at *
  go_wp2_with fail
  refine (HA.out _).mono ?_
  rintro e w2 ⟨rfl, hb2⟩
  have e1 : w2.cell? ⟨g, 1, none⟩ = some (.string s2) := by rw [hb2.cell (p := ⟨g, 1, none⟩) hg]; exact c1
  clear c0 c1
  go_wp2_with fail
  refine (HB.out _).mono ?_
  rintro e w3 ⟨y, rfl, hy, hb3⟩
  have HR3 := hide (((HR.out.below hb1).below hb2).below hb3)
  clear HR hb1 hb2 hb3
  have HR4 := hide (HR3.out.below ((Below.refl w3.heap.size w3).alloc (Nat.le_refl _) (.cells #[.int .i64 0, .int .i64 y] 37)))
  obtain ⟨d0, d1, df⟩ := HR4.out.cells
  go_wp2_with fail
  exact bodyPost_ret (v := .tuple #[.agg #[.int .i64 0, .int .i64 0], .int .i64 6]) (by simp [results, Try.results25, go_sem, d0, d1]) rfl ⟨rfl, (HR4.out.1.setCell (Nat.le_refl _) _).setCell (Nat.le_refl _) _⟩

set_option maxHeartbeats 1000000 in
theorem spref_num (l a b : List UInt8) (w : World) (hl : l.length ≤ 18) (hs : splitL 47 l = [a, b]) (hn : pfOK l = false) (had : adOK a = true) (hnum : numF b 2 = false) :
    Calls Try.prog 25 #[.string (bs l)] w fun e w' => e = .returned (.tuple #[.agg #[.int .i64 (pfA l), .int .i64 (pfB l)], .int .i64 (pfC l)]) ∧ Below w.heap.size w w' := by
  have hsz := bs_size l
  have HC := hide (fun w => l02Cut_walk l 47 w (by omega))
  have hln := split_len 47 l
  rw [hs] at hln
  rw [hs] at HC
  simp only [List.flatten_cons, List.flatten_nil, List.append_nil, List.length_append, List.length_cons, List.length_nil] at hln
  have HA := hide (fun w => specAddr_walk a w (by omega))
  have HB := hide (fun w => number_walk b 2 w (by omega) (by omega))
  rw [adC_yes had] at HA
  rw [hnum] at HB
  clear had hnum
  generalize adX a = x at *
  obtain ⟨p1, p2, p3⟩ := pf_no hn
  rw [p1, p2, p3]
  clear hn p1 p2 p3

  clear hs hln
  generalize bs l = s at *
  have HR := hide (ResQ.start w)
  go_enter Try.func25, Try.ntmps25
  go_wp2_with fail
  generalize w.alloc (.cells #[.int .i64 0, .int .i64 0] 37) = W at *
  refine (HC.out _).mono ?_
  rintro e w1 ⟨v, rfl, hown, hb1⟩
  obtain ⟨g, cap, rfl, hg, hcell⟩ := hown.at (by simp)
  have c0 : w1.cell? ⟨g, 0, none⟩ = some (.string (bs a)) := hcell 0 (by simp)
  have c1 : w1.cell? ⟨g, 1, none⟩ = some (.string (bs b)) := hcell 1 (by simp)
  clear hcell hown
  simp only [List.length_cons, List.length_nil, Nat.zero_add, Nat.reduceAdd]
  generalize bs a = s1 at *
  generalize bs b = s2 at *
  go_wp2_with fail
  refine (HA.out _).mono ?_
  rintro e w2 ⟨rfl, hb2⟩
  have e1 : w2.cell? ⟨g, 1, none⟩ = some (.string s2) := by rw [hb2.cell (p := ⟨g, 1, none⟩) hg]; exact c1
  clear c0 c1
  go_wp2_with fail
  refine (HB.out _).mono ?_
  rintro e w3 ⟨y, rfl, hy, hb3⟩
  have HR3 := hide (((HR.out.below hb1).below hb2).below hb3)
  clear HR hb1 hb2 hb3
  have HR4 := hide (HR3.out.below ((Below.refl w3.heap.size w3).alloc (Nat.le_refl _) (.cells #[.int .i64 x, .int .i64 y] 37)))
  obtain ⟨d0, d1, df⟩ := HR4.out.cells
  go_wp2_with fail
  exact bodyPost_ret (v := .tuple #[.agg #[.int .i64 0, .int .i64 0], .int .i64 6]) (by simp [results, Try.results25, go_sem, d0, d1]) rfl ⟨rfl, (HR4.out.1.setCell (Nat.le_refl _) _).setCell (Nat.le_refl _) _⟩

set_option maxHeartbeats 1000000 in
theorem spref_bad (l a b : List UInt8) (w : World) (hl : l.length ≤ 18) (hs : splitL 47 l = [a, b]) (hn : pfOK l = false) (had : adOK a = true) (hnum : numF b 2 = true) (hp : prefB (adX a) (numV b) = false) :
    Calls Try.prog 25 #[.string (bs l)] w fun e w' => e = .returned (.tuple #[.agg #[.int .i64 (pfA l), .int .i64 (pfB l)], .int .i64 (pfC l)]) ∧ Below w.heap.size w w' := by
  have hsz := bs_size l
  have HC := hide (fun w => l02Cut_walk l 47 w (by omega))
  have hln := split_len 47 l
  rw [hs] at hln
  rw [hs] at HC
  simp only [List.flatten_cons, List.flatten_nil, List.append_nil, List.length_append, List.length_cons, List.length_nil] at hln
  have HA := hide (fun w => specAddr_walk a w (by omega))
  have HB := hide (fun w => number_walk b 2 w (by omega) (by omega))
  rw [adC_yes had] at HA
  rw [hnum] at HB
  have HV := hide (fun w => specPrefixOK_walk (adX a) (numV b) w)
  rw [hp] at HV
  clear had hnum hp
  generalize adX a = x at *
  generalize numV b = z at *
  obtain ⟨p1, p2, p3⟩ := pf_no hn
  rw [p1, p2, p3]
  clear hn p1 p2 p3

  clear hs hln
  generalize bs l = s at *
  have HR := hide (ResQ.start w)
  go_enter Try.func25, Try.ntmps25
  go_wp2_with fail
  generalize w.alloc (.cells #[.int .i64 0, .int .i64 0] 37) = W at *
  refine (HC.out _).mono ?_
  rintro e w1 ⟨v, rfl, hown, hb1⟩
  obtain ⟨g, cap, rfl, hg, hcell⟩ := hown.at (by simp)
  have c0 : w1.cell? ⟨g, 0, none⟩ = some (.string (bs a)) := hcell 0 (by simp)
  have c1 : w1.cell? ⟨g, 1, none⟩ = some (.string (bs b)) := hcell 1 (by simp)
  clear hcell hown
  simp only [List.length_cons, List.length_nil, Nat.zero_add, Nat.reduceAdd]
  generalize bs a = s1 at *
  generalize bs b = s2 at *
  go_wp2_with fail
  refine (HA.out _).mono ?_
  rintro e w2 ⟨rfl, hb2⟩
  have e1 : w2.cell? ⟨g, 1, none⟩ = some (.string s2) := by rw [hb2.cell (p := ⟨g, 1, none⟩) hg]; exact c1
  clear c0 c1
  go_wp2_with fail
  refine (HB.out _).mono ?_
  rintro e w3 ⟨y, rfl, hy, hb3⟩
  have HR3 := hide (((HR.out.below hb1).below hb2).below hb3)
  clear HR hb1 hb2 hb3
  have hyz := hy trivial
  subst hyz
  clear hy
  have HR4 := hide (HR3.out.below ((Below.refl w3.heap.size w3).alloc (Nat.le_refl _) (.cells #[.int .i64 x, .int .i64 y] 37)))
  obtain ⟨hbB, hc0, hc1⟩ := box_facts w3 (.int .i64 x) (.int .i64 y) 37
  have hsB : w3.heap.size < (w3.alloc (.cells #[.int .i64 x, .int .i64 y] 37)).heap.size := by rw [World.size_alloc]; omega
  go_wp2_with fail
  generalize w3.alloc (.cells #[.int .i64 x, .int .i64 y] 37) = W3 at *
  refine (HV.out _).mono ?_
  rintro e w4 ⟨rfl, hb4⟩
  have HR5 := hide (HR4.out.below hb4)
  obtain ⟨d0, d1, df⟩ := HR5.out.cells
  have g0 : w4.cell? ⟨w3.heap.size, 0, none⟩ = some (.int .i64 x) := by rw [hb4.cell (p := ⟨w3.heap.size, 0, none⟩) hsB]; exact hc0
  have g1 : w4.cell? ⟨w3.heap.size, 1, none⟩ = some (.int .i64 y) := by rw [hb4.cell (p := ⟨w3.heap.size, 1, none⟩) hsB]; exact hc1
  clear hc0 hc1
  go_wp2_with fail
  exact bodyPost_ret (v := .tuple #[.agg #[.int .i64 0, .int .i64 0], .int .i64 6]) (by simp [results, Try.results25, go_sem, d0, d1]) rfl ⟨rfl, (HR5.out.1.setCell (Nat.le_refl _) _).setCell (Nat.le_refl _) _⟩

set_option maxHeartbeats 1000000 in
theorem spref_good (l a b : List UInt8) (w : World) (hl : l.length ≤ 18) (hs : splitL 47 l = [a, b]) (hyy : pfA l = adX a ∧ pfB l = numV b ∧ pfC l = 0) (had : adOK a = true) (hnum : numF b 2 = true) (hp : prefB (adX a) (numV b) = true) :
    Calls Try.prog 25 #[.string (bs l)] w fun e w' => e = .returned (.tuple #[.agg #[.int .i64 (pfA l), .int .i64 (pfB l)], .int .i64 (pfC l)]) ∧ Below w.heap.size w w' := by
  have hsz := bs_size l
  have HC := hide (fun w => l02Cut_walk l 47 w (by omega))
  have hln := split_len 47 l
  rw [hs] at hln
  rw [hs] at HC
  simp only [List.flatten_cons, List.flatten_nil, List.append_nil, List.length_append, List.length_cons, List.length_nil] at hln
  have HA := hide (fun w => specAddr_walk a w (by omega))
  have HB := hide (fun w => number_walk b 2 w (by omega) (by omega))
  rw [adC_yes had] at HA
  rw [hnum] at HB
  have HV := hide (fun w => specPrefixOK_walk (adX a) (numV b) w)
  rw [hp] at HV
  clear had hnum hp
  rw [hyy.1, hyy.2.1, hyy.2.2]
  clear hyy
  generalize adX a = x at *
  generalize numV b = z at *
  
  clear hs hln
  generalize bs l = s at *
  have HR := hide (ResQ.start w)
  go_enter Try.func25, Try.ntmps25
  go_wp2_with fail
  generalize w.alloc (.cells #[.int .i64 0, .int .i64 0] 37) = W at *
  refine (HC.out _).mono ?_
  rintro e w1 ⟨v, rfl, hown, hb1⟩
  obtain ⟨g, cap, rfl, hg, hcell⟩ := hown.at (by simp)
  have c0 : w1.cell? ⟨g, 0, none⟩ = some (.string (bs a)) := hcell 0 (by simp)
  have c1 : w1.cell? ⟨g, 1, none⟩ = some (.string (bs b)) := hcell 1 (by simp)
  clear hcell hown
  simp only [List.length_cons, List.length_nil, Nat.zero_add, Nat.reduceAdd]
  generalize bs a = s1 at *
  generalize bs b = s2 at *
  go_wp2_with fail
  refine (HA.out _).mono ?_
  rintro e w2 ⟨rfl, hb2⟩
  have e1 : w2.cell? ⟨g, 1, none⟩ = some (.string s2) := by rw [hb2.cell (p := ⟨g, 1, none⟩) hg]; exact c1
  clear c0 c1
  go_wp2_with fail
  refine (HB.out _).mono ?_
  rintro e w3 ⟨y, rfl, hy, hb3⟩
  have HR3 := hide (((HR.out.below hb1).below hb2).below hb3)
  clear HR hb1 hb2 hb3
  have hyz := hy trivial
  subst hyz
  clear hy
  have HR4 := hide (HR3.out.below ((Below.refl w3.heap.size w3).alloc (Nat.le_refl _) (.cells #[.int .i64 x, .int .i64 y] 37)))
  obtain ⟨hbB, hc0, hc1⟩ := box_facts w3 (.int .i64 x) (.int .i64 y) 37
  have hsB : w3.heap.size < (w3.alloc (.cells #[.int .i64 x, .int .i64 y] 37)).heap.size := by rw [World.size_alloc]; omega
  go_wp2_with fail
  generalize w3.alloc (.cells #[.int .i64 x, .int .i64 y] 37) = W3 at *
  refine (HV.out _).mono ?_
  rintro e w4 ⟨rfl, hb4⟩
  have HR5 := hide (HR4.out.below hb4)
  obtain ⟨d0, d1, df⟩ := HR5.out.cells
  have g0 : w4.cell? ⟨w3.heap.size, 0, none⟩ = some (.int .i64 x) := by rw [hb4.cell (p := ⟨w3.heap.size, 0, none⟩) hsB]; exact hc0
  have g1 : w4.cell? ⟨w3.heap.size, 1, none⟩ = some (.int .i64 y) := by rw [hb4.cell (p := ⟨w3.heap.size, 1, none⟩) hsB]; exact hc1
  clear hc0 hc1
  go_wp2_with fail
  exact bodyPost_ret (v := .tuple #[.agg #[.int .i64 x, .int .i64 y], .int .i64 0]) (by simp [results, Try.results25, go_sem, d0, d1]) rfl ⟨rfl, (HR5.out.1.setCell (Nat.le_refl _) _).setCell (Nat.le_refl _) _⟩

theorem specPref_walk (l : List UInt8) (w : World) (hl : l.length ≤ 1048576) :
    Calls Try.prog 25 #[.string (bs l)] w fun e w' => e = .returned (.tuple #[.agg #[.int .i64 (pfA l), .int .i64 (pfB l)], .int .i64 (pfC l)]) ∧ Below w.heap.size w w' := by
  by_cases hbig : 18 < l.length
  · have hn : pfOK l = false := by
      cases e : pfOK l with
      | false => rfl
      | true => exact absurd (pf_short e) (by omega)
    exact spref_big l w hbig hl hn
  · by_cases h2 : (splitL 47 l).length = 2
    · obtain ⟨a, b, hs⟩ : ∃ a b, splitL 47 l = [a, b] := by
        match h : splitL 47 l with
        | [a, b] => exact ⟨a, b, rfl⟩
        | [] => rw [h] at h2; cases h2
        | [_] => rw [h] at h2; cases h2
        | _ :: _ :: _ :: _ => rw [h] at h2; simp at h2
      have hk := pf_two hs
      rw [pf_spec] at hk
      have hl8 : l.length ≤ 18 := by omega
      cases had : adOK a with
      | false => exact spref_ad l a b w hl8 hs (by rw [hk, had]; rfl) had
      | true =>
        cases hnum : numF b 2 with
        | false => exact spref_num l a b w hl8 hs (by rw [hk, had, hnum]; rfl) had hnum
        | true =>
          cases hp : prefB (adX a) (numV b) with
          | false => exact spref_bad l a b w hl8 hs (by rw [hk, had, hnum, hp]; rfl) had hnum hp
          | true => exact spref_good l a b w hl8 hs (pf_yes hs (by rw [hk, had, hnum, hp]; rfl)) had hnum hp
    · exact spref_len l w (by omega) h2 (pf_len h2)
end Go.Proofs.Ytgegnkboibgbgaa
