/-
Contracts of functions of this seat.
-/
import Derived.Test.YtmgjagajcmeikalDoorRows
import Derived.WalkKit
import Derived.ProofKit
import Derived.OpenShut
import Derived.Test.YtmgjagajcmeikalDoorAdr
import Derived.Test.YtmgjagajcmeikalDoorPr0
namespace Go.Proofs.YtmgjagajcmeikalDoor
open Go.ChangeShapes Go.WideShapes Go.ChangeAt Go.RowKit
set_option linter.unusedVariables false
def pfOK (l : List UInt8) : Bool := match splitL 47 l with
  | [a, b] => adOK a && numOK b 32 && prefB (adX a) (numV b)
  | _ => false
def pfA (l : List UInt8) : Int := if pfOK l then adX ((splitL 47 l).headD []) else 0
def pfB (l : List UInt8) : Int := if pfOK l then numV ((splitL 47 l).tail.headD []) else 0
def pfC (l : List UInt8) : Int := if pfOK l then 0 else 6
theorem pf_no {l : List UInt8} (h : pfOK l = false) : pfA l = 0 ∧ pfB l = 0 ∧ pfC l = 6 := by unfold pfA pfB pfC; rw [h]; exact ⟨rfl, rfl, rfl⟩
theorem pf_yes {l a b : List UInt8} (hs : splitL 47 l = [a, b]) (h : pfOK l = true) : pfA l = adX a ∧ pfB l = numV b ∧ pfC l = 0 := by unfold pfA pfB pfC; rw [h, hs]; exact ⟨rfl, rfl, rfl⟩
theorem pf_two {l a b : List UInt8} (hs : splitL 47 l = [a, b]) : pfOK l = (adOK a && numOK b 32 && prefB (adX a) (numV b)) := by unfold pfOK; rw [hs]
theorem pf_len {l : List UInt8} (h : ¬ (splitL 47 l).length = 2) : pfOK l = false := by
  unfold pfOK
  split
  · rename_i a b e; rw [e] at h; exact absurd rfl h
  · rfl
theorem pf_short {l : List UInt8} (h : pfOK l = true) : l.length ≤ 18 := by
  have hs := split_len 47 l
  unfold pfOK at h
  split at h
  · rename_i a b e
    rw [e] at hs
    simp only [Bool.and_eq_true] at h
    have h1 := ad_short h.1.1
    have h2 := h.1.2
    rw [← numOK_F2] at h2
    unfold numF at h2
    simp only [Bool.and_eq_true, decide_eq_true_eq] at h2
    have h3 := h2.1.1.1.2
    simp only [List.flatten_cons, List.flatten_nil, List.append_nil, List.length_append, List.length_cons, List.length_nil] at hs
    omega
  · cases h
/-- Behind the first '/': a second one is no digit. -/
theorem pf_cut {a b : List UInt8} (ha : (47 : UInt8) ∉ a) : pfOK (a ++ 47 :: b) = (adOK a && numOK b 32 && prefB (adX a) (numV b)) := by
  have hs := split_yes 47 b a ha
  by_cases hb : (47 : UInt8) ∈ b
  · obtain ⟨c, d, rfl, hc⟩ := List.eq_append_cons_of_mem hb
    have hs2 := split_yes 47 d c hc
    rw [pf_len (by rw [hs, hs2, List.length_cons, List.length_cons]; have := List.length_pos_iff.2 (split_ne 47 d); omega)]
    rw [numOK_nodigit (l := c ++ 47 :: d) (k := c.length) (by simp) (by simp; rfl)]
    simp
  · rw [split_no 47 b hb] at hs
    exact pf_two hs
theorem pf_none {l : List UInt8} (h : (47 : UInt8) ∉ l) : pfOK l = false := pf_len (by rw [split_no 47 l h]; show ¬ 1 = 2; decide)
theorem pf_spec {a b : List UInt8} : (adOK a && numOK b 32 && prefB (adX a) (numV b)) = (adOK a && numF b 2 && prefB (adX a) (numV b)) := by
  rw [← numOK_F2]
  cases h : prefB (adX a) (numV b) with
  | false => simp
  | true => rw [decide_eq_true (prefB_iff.1 h).2.1]; simp
theorem adX_bd (l : List UInt8) : 0 ≤ adX l ∧ adX l ≤ 4294967295 := by
  unfold adX
  split
  · rename_i h
    unfold adOK at h
    simp only [Bool.and_eq_true, decide_eq_true_eq] at h
    have := adFold_bd (splitL 46 l) 4 (by omega) (by rw [List.take_of_length_le (by omega)]; exact h.2)
    rw [List.take_of_length_le (by omega)] at this
    have h2 := this.2
    have : ((256 : Int) ^ 4) = 4294967296 := by decide
    omega
  · omega
theorem pf_split {a b : List UInt8} (ha : (47 : UInt8) ∉ a) (h : pfOK (a ++ 47 :: b) = true) : splitL 47 (a ++ 47 :: b) = [a, b] := by
  have hs := split_yes 47 b a ha
  by_cases hb : (47 : UInt8) ∈ b
  · rw [pf_cut ha] at h
    simp only [Bool.and_eq_true] at h
    obtain ⟨c, d, rfl, hc⟩ := List.eq_append_cons_of_mem hb
    rw [numOK_nodigit (l := c ++ 47 :: d) (k := c.length) (by simp) (by simp; rfl)] at h
    simp at h
  · rw [hs, split_no 47 b hb]

/-- The result's cell is as it was laid. -/
def Res (w0 w : World) : Prop := Below w0.heap.size w0 w ∧ w0.heap.size < w.heap.size ∧ w.heap[w0.heap.size]? = some (.cells #[.int .i64 0, .int .i64 0] 36)
theorem Res.start (w0 : World) : Res w0 (w0.alloc (.cells #[.int .i64 0, .int .i64 0] 36)) :=
  ⟨(Below.refl _ _).alloc (Nat.le_refl _) _, by rw [World.size_alloc]; omega, heap_alloc_new _ _⟩
theorem Res.below {w0 w w' : World} (h : Res w0 w) (hb : Below w.heap.size w w') : Res w0 w' :=
  ⟨h.1.trans (hb.mono h.1.size), by have := hb.size; have := h.2.1; omega, by rw [hb.block _ h.2.1]; exact h.2.2⟩
theorem Res.cells {w0 w : World} (h : Res w0 w) : w.cell? ⟨w0.heap.size, 0, none⟩ = some (.int .i64 0) ∧ w.cell? ⟨w0.heap.size, 1, none⟩ = some (.int .i64 0) ∧ (∀ o, w.frozen? ⟨w0.heap.size, o, none⟩ = false) := pair_cells h.2.2
set_option maxHeartbeats 1000000 in
theorem pref_ad (l a b : List UInt8) (m : Bool) (w : World) (hcut : ∀ w, Calls Tryd.prog 17 #[.string (bs l), .string (bs [47])] w fun e w' => e = .returned (.tuple #[.string (bs a), .string (bs b), .bool m]) ∧ Below w.heap.size w w') (hla : a.length ≤ 1048576) (hlb : b.length ≤ 1048576) (hn : pfOK l = false) (had : adOK a = false) :
    Calls Tryd.prog 12 #[.string (bs l)] w fun e w' => e = .returned (.tuple #[.agg #[.int .i64 (pfA l), .int .i64 (pfB l)], .int .i64 (pfC l)]) ∧ Below w.heap.size w w' := by
  have HC := hide hcut
  have HA := hide (fun w => addr_walk a w hla)
  rw [adX_no had, adC_no had] at HA
  clear had
  obtain ⟨p1, p2, p3⟩ := pf_no hn
  rw [p1, p2, p3]
  clear hn p1 p2 p3
  clear hcut
  generalize bs l = s at *
  generalize bs a = s1 at *
  generalize bs b = s2 at *
  have HR := hide (Res.start w)
  go_enter Tryd.func12, Tryd.ntmps12
  go_wp2_with fail
  generalize w.alloc (.cells #[.int .i64 0, .int .i64 0] 36) = W at *
  refine (HC.out _).mono ?_
  rintro e w1 ⟨rfl, hb1⟩
  go_wp2_with fail
  refine (HA.out _).mono ?_
  rintro e w2 ⟨rfl, hb2⟩
  have HR2 := hide ((HR.out.below hb1).below hb2)
  clear HR hb1 hb2
  obtain ⟨d0, d1, df⟩ := HR2.out.cells
  go_wp2_with fail
  exact bodyPost_ret (v := .tuple #[.agg #[.int .i64 0, .int .i64 0], .int .i64 6]) (by simp [results, Tryd.results12, go_sem, d0, d1]) rfl ⟨rfl, (HR2.out.1.setCell (Nat.le_refl _) _).setCell (Nat.le_refl _) _⟩
set_option maxHeartbeats 1000000 in
theorem pref_num (l a b : List UInt8) (m : Bool) (w : World) (hcut : ∀ w, Calls Tryd.prog 17 #[.string (bs l), .string (bs [47])] w fun e w' => e = .returned (.tuple #[.string (bs a), .string (bs b), .bool m]) ∧ Below w.heap.size w w') (hla : a.length ≤ 1048576) (hlb : b.length ≤ 1048576) (hn : pfOK l = false) (had : adOK a = true) (hnum : numOK b 32 = false) :
    Calls Tryd.prog 12 #[.string (bs l)] w fun e w' => e = .returned (.tuple #[.agg #[.int .i64 (pfA l), .int .i64 (pfB l)], .int .i64 (pfC l)]) ∧ Below w.heap.size w w' := by
  have HC := hide hcut
  have HA := hide (fun w => addr_walk a w hla)
  have hax := adX_bd a
  rw [adC_yes had] at HA
  clear had
  have HD := hide (fun w => decimal_no b 32 w hlb (by omega) hnum)
  clear hnum
  generalize adX a = x at *
  obtain ⟨p1, p2, p3⟩ := pf_no hn
  rw [p1, p2, p3]
  clear hn p1 p2 p3
  clear hcut
  generalize bs l = s at *
  generalize bs a = s1 at *
  generalize bs b = s2 at *
  have HR := hide (Res.start w)
  go_enter Tryd.func12, Tryd.ntmps12
  go_wp2_with fail
  generalize w.alloc (.cells #[.int .i64 0, .int .i64 0] 36) = W at *
  refine (HC.out _).mono ?_
  rintro e w1 ⟨rfl, hb1⟩
  go_wp2_with fail
  refine (HA.out _).mono ?_
  rintro e w2 ⟨rfl, hb2⟩
  have HR2 := hide ((HR.out.below hb1).below hb2)
  clear HR hb1 hb2
  go_wp2_with fail
  refine (HD.out _).mono ?_
  rintro e w3 ⟨rfl, hw3⟩
  rw [hw3]
  clear hw3
  have hba := (Below.refl w2.heap.size w2).alloc (Nat.le_refl _) (.cells #[.int .i64 x, .int .i64 0] 36)
  have HR3 := hide (HR2.out.below hba)
  obtain ⟨d0, d1, df⟩ := HR3.out.cells
  go_wp2_with fail
  exact bodyPost_ret (v := .tuple #[.agg #[.int .i64 0, .int .i64 0], .int .i64 6]) (by simp [results, Tryd.results12, go_sem, d0, d1]) rfl ⟨rfl, (HR3.out.1.setCell (Nat.le_refl _) _).setCell (Nat.le_refl _) _⟩
set_option maxHeartbeats 1000000 in
theorem pref_bad (l a b : List UInt8) (m : Bool) (w : World) (hcut : ∀ w, Calls Tryd.prog 17 #[.string (bs l), .string (bs [47])] w fun e w' => e = .returned (.tuple #[.string (bs a), .string (bs b), .bool m]) ∧ Below w.heap.size w w') (hla : a.length ≤ 1048576) (hlb : b.length ≤ 1048576) (hn : pfOK l = false) (had : adOK a = true) (hnum : numOK b 32 = true) (hp : prefB (adX a) (numV b) = false) :
    Calls Tryd.prog 12 #[.string (bs l)] w fun e w' => e = .returned (.tuple #[.agg #[.int .i64 (pfA l), .int .i64 (pfB l)], .int .i64 (pfC l)]) ∧ Below w.heap.size w w' := by
  have HC := hide hcut
  have HA := hide (fun w => addr_walk a w hla)
  have hax := adX_bd a
  rw [adC_yes had] at HA
  clear had
  have HD := hide (fun w => decimal_yes b 32 w hlb (by omega) hnum)
  have HV := hide (fun w => valid_walk (adX a) (numV b) w)
  rw [hp] at HV
  clear hnum hp
  generalize adX a = x at *
  generalize numV b = y at *
  obtain ⟨p1, p2, p3⟩ := pf_no hn
  rw [p1, p2, p3]
  clear hn p1 p2 p3
  clear hcut
  generalize bs l = s at *
  generalize bs a = s1 at *
  generalize bs b = s2 at *
  have HR := hide (Res.start w)
  go_enter Tryd.func12, Tryd.ntmps12
  go_wp2_with fail
  generalize w.alloc (.cells #[.int .i64 0, .int .i64 0] 36) = W at *
  refine (HC.out _).mono ?_
  rintro e w1 ⟨rfl, hb1⟩
  go_wp2_with fail
  refine (HA.out _).mono ?_
  rintro e w2 ⟨rfl, hb2⟩
  have HR2 := hide ((HR.out.below hb1).below hb2)
  clear HR hb1 hb2
  go_wp2_with fail
  refine (HD.out _).mono ?_
  rintro e w3 ⟨rfl, hw3⟩
  rw [hw3]
  clear hw3
  have hba := (Below.refl w2.heap.size w2).alloc (Nat.le_refl _) (.cells #[.int .i64 x, .int .i64 y] 36)
  have HR3 := hide (HR2.out.below hba)
  obtain ⟨hbB, hc0, hc1⟩ := box_facts w2 (.int .i64 x) (.int .i64 y) 36
  have hsB : w2.heap.size < (w2.alloc (.cells #[.int .i64 x, .int .i64 y] 36)).heap.size := by rw [World.size_alloc]; omega
  go_wp2_with fail
  generalize w2.alloc (.cells #[.int .i64 x, .int .i64 y] 36) = W3 at *
  refine (HV.out _).mono ?_
  rintro e w4 ⟨rfl, hb4⟩
  have HR4 := hide (HR3.out.below hb4)
  obtain ⟨d0, d1, df⟩ := HR4.out.cells
  have g0 : w4.cell? ⟨w2.heap.size, 0, none⟩ = some (.int .i64 x) := by rw [hb4.cell (p := ⟨w2.heap.size, 0, none⟩) hsB]; exact hc0
  have g1 : w4.cell? ⟨w2.heap.size, 1, none⟩ = some (.int .i64 y) := by rw [hb4.cell (p := ⟨w2.heap.size, 1, none⟩) hsB]; exact hc1
  clear hc0 hc1
  go_wp2_with fail
  exact bodyPost_ret (v := .tuple #[.agg #[.int .i64 0, .int .i64 0], .int .i64 6]) (by simp [results, Tryd.results12, go_sem, d0, d1]) rfl ⟨rfl, (HR4.out.1.setCell (Nat.le_refl _) _).setCell (Nat.le_refl _) _⟩
set_option maxHeartbeats 1000000 in
theorem pref_good (l a b : List UInt8) (m : Bool) (w : World) (hcut : ∀ w, Calls Tryd.prog 17 #[.string (bs l), .string (bs [47])] w fun e w' => e = .returned (.tuple #[.string (bs a), .string (bs b), .bool m]) ∧ Below w.heap.size w w') (hla : a.length ≤ 1048576) (hlb : b.length ≤ 1048576) (hy : pfA l = adX a ∧ pfB l = numV b ∧ pfC l = 0) (had : adOK a = true) (hnum : numOK b 32 = true) (hp : prefB (adX a) (numV b) = true) :
    Calls Tryd.prog 12 #[.string (bs l)] w fun e w' => e = .returned (.tuple #[.agg #[.int .i64 (pfA l), .int .i64 (pfB l)], .int .i64 (pfC l)]) ∧ Below w.heap.size w w' := by
  have HC := hide hcut
  have HA := hide (fun w => addr_walk a w hla)
  have hax := adX_bd a
  rw [adC_yes had] at HA
  clear had
  have HD := hide (fun w => decimal_yes b 32 w hlb (by omega) hnum)
  have HV := hide (fun w => valid_walk (adX a) (numV b) w)
  rw [hp] at HV
  clear hnum hp
  rw [hy.1, hy.2.1, hy.2.2]
  clear hy
  generalize adX a = x at *
  generalize numV b = y at *

  clear hcut
  generalize bs l = s at *
  generalize bs a = s1 at *
  generalize bs b = s2 at *
  have HR := hide (Res.start w)
  go_enter Tryd.func12, Tryd.ntmps12
  go_wp2_with fail
  generalize w.alloc (.cells #[.int .i64 0, .int .i64 0] 36) = W at *
  refine (HC.out _).mono ?_
  rintro e w1 ⟨rfl, hb1⟩
  go_wp2_with fail
  refine (HA.out _).mono ?_
  rintro e w2 ⟨rfl, hb2⟩
  have HR2 := hide ((HR.out.below hb1).below hb2)
  clear HR hb1 hb2
  go_wp2_with fail
  refine (HD.out _).mono ?_
  rintro e w3 ⟨rfl, hw3⟩
  rw [hw3]
  clear hw3
  have hba := (Below.refl w2.heap.size w2).alloc (Nat.le_refl _) (.cells #[.int .i64 x, .int .i64 y] 36)
  have HR3 := hide (HR2.out.below hba)
  obtain ⟨hbB, hc0, hc1⟩ := box_facts w2 (.int .i64 x) (.int .i64 y) 36
  have hsB : w2.heap.size < (w2.alloc (.cells #[.int .i64 x, .int .i64 y] 36)).heap.size := by rw [World.size_alloc]; omega
  go_wp2_with fail
  generalize w2.alloc (.cells #[.int .i64 x, .int .i64 y] 36) = W3 at *
  refine (HV.out _).mono ?_
  rintro e w4 ⟨rfl, hb4⟩
  have HR4 := hide (HR3.out.below hb4)
  obtain ⟨d0, d1, df⟩ := HR4.out.cells
  have g0 : w4.cell? ⟨w2.heap.size, 0, none⟩ = some (.int .i64 x) := by rw [hb4.cell (p := ⟨w2.heap.size, 0, none⟩) hsB]; exact hc0
  have g1 : w4.cell? ⟨w2.heap.size, 1, none⟩ = some (.int .i64 y) := by rw [hb4.cell (p := ⟨w2.heap.size, 1, none⟩) hsB]; exact hc1
  clear hc0 hc1
  go_wp2_with fail
  exact bodyPost_ret (v := .tuple #[.agg #[.int .i64 x, .int .i64 y], .int .i64 0]) (by simp [results, Tryd.results12, go_sem, d0, d1]) rfl ⟨rfl, (HR4.out.1.setCell (Nat.le_refl _) _).setCell (Nat.le_refl _) _⟩
theorem pref_walk (l : List UInt8) (w : World) (hl : l.length ≤ 1048576) :
    Calls Tryd.prog 12 #[.string (bs l)] w fun e w' => e = .returned (.tuple #[.agg #[.int .i64 (pfA l), .int .i64 (pfB l)], .int .i64 (pfC l)]) ∧ Below w.heap.size w w' := by
  by_cases hm : (47 : UInt8) ∈ l
  · obtain ⟨a, b, rfl, hna⟩ := List.eq_append_cons_of_mem hm
    have hla : a.length ≤ 1048576 ∧ b.length ≤ 1048576 := by rw [List.length_append, List.length_cons] at hl; omega
    have hk := pf_cut (b := b) hna
    have hc := fun w => cut_yes a b 47 w hl hna
    cases had : adOK a with
    | false => exact pref_ad _ a b true w hc hla.1 hla.2 (by rw [hk, had]; rfl) had
    | true =>
      cases hnum : numOK b 32 with
      | false => exact pref_num _ a b true w hc hla.1 hla.2 (by rw [hk, had, hnum]; rfl) had hnum
      | true =>
        cases hp : prefB (adX a) (numV b) with
        | false => exact pref_bad _ a b true w hc hla.1 hla.2 (by rw [hk, had, hnum, hp]; rfl) had hnum hp
        | true =>
          have hok : pfOK (a ++ 47 :: b) = true := by rw [hk, had, hnum, hp]; rfl
          exact pref_good _ a b true w hc hla.1 hla.2 (pf_yes (pf_split hna hok) hok) had hnum hp
  · have hn := pf_none hm
    have hc := fun w => cut_no l 47 w hm
    cases had : adOK l with
    | false => exact pref_ad _ l [] false w hc hl (by simp) hn had
    | true => exact pref_num _ l [] false w hc hl (by simp) hn had rfl

set_option maxHeartbeats 1000000 in
theorem spref_big (l : List UInt8) (w : World) (hbig : 18 < l.length) (hl : l.length ≤ 1048576) (hn : pfOK l = false) :
    Calls Tryd.prog 11 #[.string (bs l)] w fun e w' => e = .returned (.tuple #[.agg #[.int .i64 (pfA l), .int .i64 (pfB l)], .int .i64 (pfC l)]) ∧ Below w.heap.size w w' := by
  have hsz := bs_size l
  obtain ⟨p1, p2, p3⟩ := pf_no hn
  rw [p1, p2, p3]
  clear hn p1 p2 p3
  generalize bs l = s at *
  have HR := hide (Res.start w)
  obtain ⟨d0, d1, df⟩ := HR.out.cells
  go_enter Tryd.func11, Tryd.ntmps11
  go_wp2_with fail
  exact bodyPost_ret (v := .tuple #[.agg #[.int .i64 0, .int .i64 0], .int .i64 6]) (by simp [results, Tryd.results11, go_sem, d0, d1]) rfl ⟨rfl, HR.out.1⟩

set_option maxHeartbeats 1000000 in
theorem spref_len (l : List UInt8) (w : World) (hl : l.length ≤ 18) (h2 : ¬ (splitL 47 l).length = 2) (hn : pfOK l = false) :
    Calls Tryd.prog 11 #[.string (bs l)] w fun e w' => e = .returned (.tuple #[.agg #[.int .i64 (pfA l), .int .i64 (pfB l)], .int .i64 (pfC l)]) ∧ Below w.heap.size w w' := by
  have hsz := bs_size l
  have HC := hide (fun w => l02Cut_walk l 47 w (by omega))
  have HNE := hide (split_ne 47 l)
  have hne : (((splitL 47 l).length : Int) != 2) = true := by rw [bne_iff_ne]; omega
  obtain ⟨p1, p2, p3⟩ := pf_no hn
  rw [p1, p2, p3]
  clear hn p1 p2 p3
  clear h2
  generalize bs l = s at *
  generalize splitL 47 l = ps at *
  have HR := hide (Res.start w)
  go_enter Tryd.func11, Tryd.ntmps11
  go_wp2_with fail
  generalize w.alloc (.cells #[.int .i64 0, .int .i64 0] 36) = W at *
  refine (HC.out _).mono ?_
  rintro e w1 ⟨v, rfl, hown, hb1⟩
  obtain ⟨g, cap, rfl, hg, hcell⟩ := hown.at HNE.out
  clear hcell hown
  have HR1 := hide (HR.out.below hb1)
  obtain ⟨d0, d1, df⟩ := HR1.out.cells
  go_wp2_with fail
  exact bodyPost_ret (v := .tuple #[.agg #[.int .i64 0, .int .i64 0], .int .i64 6]) (by simp [results, Tryd.results11, go_sem, d0, d1]) rfl ⟨rfl, (HR1.out.1.setCell (Nat.le_refl _) _).setCell (Nat.le_refl _) _⟩

set_option maxHeartbeats 1000000 in
theorem spref_ad (l a b : List UInt8) (w : World) (hl : l.length ≤ 18) (hs : splitL 47 l = [a, b]) (hn : pfOK l = false) (had : adOK a = false) :
    Calls Tryd.prog 11 #[.string (bs l)] w fun e w' => e = .returned (.tuple #[.agg #[.int .i64 (pfA l), .int .i64 (pfB l)], .int .i64 (pfC l)]) ∧ Below w.heap.size w w' := by
  have hsz := bs_size l
  have HC := hide (fun w => l02Cut_walk l 47 w (by omega))
  have hln := split_len 47 l
  rw [hs] at hln
  rw [hs] at HC
  simp only [List.flatten_cons, List.flatten_nil, List.append_nil, List.length_append, List.length_cons, List.length_nil] at hln
  have HA := hide (fun w => specAddr_walk a w (by omega))
  have HB := hide (fun w => number_walk b 2 w (by omega) (by omega))
  rw [adX_no had, adC_no had] at HA
  clear had
  obtain ⟨p1, p2, p3⟩ := pf_no hn
  rw [p1, p2, p3]
  clear hn p1 p2 p3

  clear hs hln
  generalize bs l = s at *
  have HR := hide (Res.start w)
  go_enter Tryd.func11, Tryd.ntmps11
  go_wp2_with fail
  generalize w.alloc (.cells #[.int .i64 0, .int .i64 0] 36) = W at *
  refine (HC.out _).mono ?_
  rintro e w1 ⟨v, rfl, hown, hb1⟩
  obtain ⟨g, cap, rfl, hg, hcell⟩ := hown.at (by simp)
  have c0 : w1.cell? ⟨g, 0, none⟩ = some (.string (bs a)) := hcell 0 (by simp)
  have c1 : w1.cell? ⟨g, 1, none⟩ = some (.string (bs b)) := hcell 1 (by simp)
  clear hcell hown
  simp only [List.length_cons, List.length_nil, Nat.zero_add, Nat.reduceAdd]
  generalize bs a = s1 at *
  generalize bs b = s2 at *
  go_wp2_with fail
  refine (HA.out _).mono ?_
  rintro e w2 ⟨rfl, hb2⟩
  have e1 : w2.cell? ⟨g, 1, none⟩ = some (.string s2) := by rw [hb2.cell (p := ⟨g, 1, none⟩) hg]; exact c1
  clear c0 c1
  go_wp2_with fail
  refine (HB.out _).mono ?_
  rintro e w3 ⟨y, rfl, hy, hb3⟩
  have HR3 := hide (((HR.out.below hb1).below hb2).below hb3)
  clear HR hb1 hb2 hb3
  have HR4 := hide (HR3.out.below ((Below.refl w3.heap.size w3).alloc (Nat.le_refl _) (.cells #[.int .i64 0, .int .i64 y] 36)))
  obtain ⟨d0, d1, df⟩ := HR4.out.cells
  go_wp2_with fail
  exact bodyPost_ret (v := .tuple #[.agg #[.int .i64 0, .int .i64 0], .int .i64 6]) (by simp [results, Tryd.results11, go_sem, d0, d1]) rfl ⟨rfl, (HR4.out.1.setCell (Nat.le_refl _) _).setCell (Nat.le_refl _) _⟩

set_option maxHeartbeats 1000000 in
theorem spref_num (l a b : List UInt8) (w : World) (hl : l.length ≤ 18) (hs : splitL 47 l = [a, b]) (hn : pfOK l = false) (had : adOK a = true) (hnum : numF b 2 = false) :
    Calls Tryd.prog 11 #[.string (bs l)] w fun e w' => e = .returned (.tuple #[.agg #[.int .i64 (pfA l), .int .i64 (pfB l)], .int .i64 (pfC l)]) ∧ Below w.heap.size w w' := by
  have hsz := bs_size l
  have HC := hide (fun w => l02Cut_walk l 47 w (by omega))
  have hln := split_len 47 l
  rw [hs] at hln
  rw [hs] at HC
  simp only [List.flatten_cons, List.flatten_nil, List.append_nil, List.length_append, List.length_cons, List.length_nil] at hln
  have HA := hide (fun w => specAddr_walk a w (by omega))
  have HB := hide (fun w => number_walk b 2 w (by omega) (by omega))
  rw [adC_yes had] at HA
  rw [hnum] at HB
  clear had hnum
  generalize adX a = x at *
  obtain ⟨p1, p2, p3⟩ := pf_no hn
  rw [p1, p2, p3]
  clear hn p1 p2 p3

  clear hs hln
  generalize bs l = s at *
  have HR := hide (Res.start w)
  go_enter Tryd.func11, Tryd.ntmps11
  go_wp2_with fail
  generalize w.alloc (.cells #[.int .i64 0, .int .i64 0] 36) = W at *
  refine (HC.out _).mono ?_
  rintro e w1 ⟨v, rfl, hown, hb1⟩
  obtain ⟨g, cap, rfl, hg, hcell⟩ := hown.at (by simp)
  have c0 : w1.cell? ⟨g, 0, none⟩ = some (.string (bs a)) := hcell 0 (by simp)
  have c1 : w1.cell? ⟨g, 1, none⟩ = some (.string (bs b)) := hcell 1 (by simp)
  clear hcell hown
  simp only [List.length_cons, List.length_nil, Nat.zero_add, Nat.reduceAdd]
  generalize bs a = s1 at *
  generalize bs b = s2 at *
  go_wp2_with fail
  refine (HA.out _).mono ?_
  rintro e w2 ⟨rfl, hb2⟩
  have e1 : w2.cell? ⟨g, 1, none⟩ = some (.string s2) := by rw [hb2.cell (p := ⟨g, 1, none⟩) hg]; exact c1
  clear c0 c1
  go_wp2_with fail
  refine (HB.out _).mono ?_
  rintro e w3 ⟨y, rfl, hy, hb3⟩
  have HR3 := hide (((HR.out.below hb1).below hb2).below hb3)
  clear HR hb1 hb2 hb3
  have HR4 := hide (HR3.out.below ((Below.refl w3.heap.size w3).alloc (Nat.le_refl _) (.cells #[.int .i64 x, .int .i64 y] 36)))
  obtain ⟨d0, d1, df⟩ := HR4.out.cells
  go_wp2_with fail
  exact bodyPost_ret (v := .tuple #[.agg #[.int .i64 0, .int .i64 0], .int .i64 6]) (by simp [results, Tryd.results11, go_sem, d0, d1]) rfl ⟨rfl, (HR4.out.1.setCell (Nat.le_refl _) _).setCell (Nat.le_refl _) _⟩

set_option maxHeartbeats 1000000 in
theorem spref_bad (l a b : List UInt8) (w : World) (hl : l.length ≤ 18) (hs : splitL 47 l = [a, b]) (hn : pfOK l = false) (had : adOK a = true) (hnum : numF b 2 = true) (hp : prefB (adX a) (numV b) = false) :
    Calls Tryd.prog 11 #[.string (bs l)] w fun e w' => e = .returned (.tuple #[.agg #[.int .i64 (pfA l), .int .i64 (pfB l)], .int .i64 (pfC l)]) ∧ Below w.heap.size w w' := by
  have hsz := bs_size l
  have HC := hide (fun w => l02Cut_walk l 47 w (by omega))
  have hln := split_len 47 l
  rw [hs] at hln
  rw [hs] at HC
  simp only [List.flatten_cons, List.flatten_nil, List.append_nil, List.length_append, List.length_cons, List.length_nil] at hln
  have HA := hide (fun w => specAddr_walk a w (by omega))
  have HB := hide (fun w => number_walk b 2 w (by omega) (by omega))
  rw [adC_yes had] at HA
  rw [hnum] at HB
  have HV := hide (fun w => specPrefixOK_walk (adX a) (numV b) w)
  rw [hp] at HV
  clear had hnum hp
  generalize adX a = x at *
  generalize numV b = z at *
  obtain ⟨p1, p2, p3⟩ := pf_no hn
  rw [p1, p2, p3]
  clear hn p1 p2 p3

  clear hs hln
  generalize bs l = s at *
  have HR := hide (Res.start w)
  go_enter Tryd.func11, Tryd.ntmps11
  go_wp2_with fail
  generalize w.alloc (.cells #[.int .i64 0, .int .i64 0] 36) = W at *
  refine (HC.out _).mono ?_
  rintro e w1 ⟨v, rfl, hown, hb1⟩
  obtain ⟨g, cap, rfl, hg, hcell⟩ := hown.at (by simp)
  have c0 : w1.cell? ⟨g, 0, none⟩ = some (.string (bs a)) := hcell 0 (by simp)
  have c1 : w1.cell? ⟨g, 1, none⟩ = some (.string (bs b)) := hcell 1 (by simp)
  clear hcell hown
  simp only [List.length_cons, List.length_nil, Nat.zero_add, Nat.reduceAdd]
  generalize bs a = s1 at *
  generalize bs b = s2 at *
  go_wp2_with fail
  refine (HA.out _).mono ?_
  rintro e w2 ⟨rfl, hb2⟩
  have e1 : w2.cell? ⟨g, 1, none⟩ = some (.string s2) := by rw [hb2.cell (p := ⟨g, 1, none⟩) hg]; exact c1
  clear c0 c1
  go_wp2_with fail
  refine (HB.out _).mono ?_
  rintro e w3 ⟨y, rfl, hy, hb3⟩
  have HR3 := hide (((HR.out.below hb1).below hb2).below hb3)
  clear HR hb1 hb2 hb3
  have hyz := hy trivial
  subst hyz
  clear hy
  have HR4 := hide (HR3.out.below ((Below.refl w3.heap.size w3).alloc (Nat.le_refl _) (.cells #[.int .i64 x, .int .i64 y] 36)))
  obtain ⟨hbB, hc0, hc1⟩ := box_facts w3 (.int .i64 x) (.int .i64 y) 36
  have hsB : w3.heap.size < (w3.alloc (.cells #[.int .i64 x, .int .i64 y] 36)).heap.size := by rw [World.size_alloc]; omega
  go_wp2_with fail
  generalize w3.alloc (.cells #[.int .i64 x, .int .i64 y] 36) = W3 at *
  refine (HV.out _).mono ?_
  rintro e w4 ⟨rfl, hb4⟩
  have HR5 := hide (HR4.out.below hb4)
  obtain ⟨d0, d1, df⟩ := HR5.out.cells
  have g0 : w4.cell? ⟨w3.heap.size, 0, none⟩ = some (.int .i64 x) := by rw [hb4.cell (p := ⟨w3.heap.size, 0, none⟩) hsB]; exact hc0
  have g1 : w4.cell? ⟨w3.heap.size, 1, none⟩ = some (.int .i64 y) := by rw [hb4.cell (p := ⟨w3.heap.size, 1, none⟩) hsB]; exact hc1
  clear hc0 hc1
  go_wp2_with fail
  exact bodyPost_ret (v := .tuple #[.agg #[.int .i64 0, .int .i64 0], .int .i64 6]) (by simp [results, Tryd.results11, go_sem, d0, d1]) rfl ⟨rfl, (HR5.out.1.setCell (Nat.le_refl _) _).setCell (Nat.le_refl _) _⟩

set_option maxHeartbeats 1000000 in
theorem spref_good (l a b : List UInt8) (w : World) (hl : l.length ≤ 18) (hs : splitL 47 l = [a, b]) (hyy : pfA l = adX a ∧ pfB l = numV b ∧ pfC l = 0) (had : adOK a = true) (hnum : numF b 2 = true) (hp : prefB (adX a) (numV b) = true) :
    Calls Tryd.prog 11 #[.string (bs l)] w fun e w' => e = .returned (.tuple #[.agg #[.int .i64 (pfA l), .int .i64 (pfB l)], .int .i64 (pfC l)]) ∧ Below w.heap.size w w' := by
  have hsz := bs_size l
  have HC := hide (fun w => l02Cut_walk l 47 w (by omega))
  have hln := split_len 47 l
  rw [hs] at hln
  rw [hs] at HC
  simp only [List.flatten_cons, List.flatten_nil, List.append_nil, List.length_append, List.length_cons, List.length_nil] at hln
  have HA := hide (fun w => specAddr_walk a w (by omega))
  have HB := hide (fun w => number_walk b 2 w (by omega) (by omega))
  rw [adC_yes had] at HA
  rw [hnum] at HB
  have HV := hide (fun w => specPrefixOK_walk (adX a) (numV b) w)
  rw [hp] at HV
  clear had hnum hp
  rw [hyy.1, hyy.2.1, hyy.2.2]
  clear hyy
  generalize adX a = x at *
  generalize numV b = z at *
  
  clear hs hln
  generalize bs l = s at *
  have HR := hide (Res.start w)
  go_enter Tryd.func11, Tryd.ntmps11
  go_wp2_with fail
  generalize w.alloc (.cells #[.int .i64 0, .int .i64 0] 36) = W at *
  refine (HC.out _).mono ?_
  rintro e w1 ⟨v, rfl, hown, hb1⟩
  obtain ⟨g, cap, rfl, hg, hcell⟩ := hown.at (by simp)
  have c0 : w1.cell? ⟨g, 0, none⟩ = some (.string (bs a)) := hcell 0 (by simp)
  have c1 : w1.cell? ⟨g, 1, none⟩ = some (.string (bs b)) := hcell 1 (by simp)
  clear hcell hown
  simp only [List.length_cons, List.length_nil, Nat.zero_add, Nat.reduceAdd]
  generalize bs a = s1 at *
  generalize bs b = s2 at *
  go_wp2_with fail
  refine (HA.out _).mono ?_
  rintro e w2 ⟨rfl, hb2⟩
  have e1 : w2.cell? ⟨g, 1, none⟩ = some (.string s2) := by rw [hb2.cell (p := ⟨g, 1, none⟩) hg]; exact c1
  clear c0 c1
  go_wp2_with fail
  refine (HB.out _).mono ?_
  rintro e w3 ⟨y, rfl, hy, hb3⟩
  have HR3 := hide (((HR.out.below hb1).below hb2).below hb3)
  clear HR hb1 hb2 hb3
  have hyz := hy trivial
  subst hyz
  clear hy
  have HR4 := hide (HR3.out.below ((Below.refl w3.heap.size w3).alloc (Nat.le_refl _) (.cells #[.int .i64 x, .int .i64 y] 36)))
  obtain ⟨hbB, hc0, hc1⟩ := box_facts w3 (.int .i64 x) (.int .i64 y) 36
  have hsB : w3.heap.size < (w3.alloc (.cells #[.int .i64 x, .int .i64 y] 36)).heap.size := by rw [World.size_alloc]; omega
  go_wp2_with fail
  generalize w3.alloc (.cells #[.int .i64 x, .int .i64 y] 36) = W3 at *
  refine (HV.out _).mono ?_
  rintro e w4 ⟨rfl, hb4⟩
  have HR5 := hide (HR4.out.below hb4)
  obtain ⟨d0, d1, df⟩ := HR5.out.cells
  have g0 : w4.cell? ⟨w3.heap.size, 0, none⟩ = some (.int .i64 x) := by rw [hb4.cell (p := ⟨w3.heap.size, 0, none⟩) hsB]; exact hc0
  have g1 : w4.cell? ⟨w3.heap.size, 1, none⟩ = some (.int .i64 y) := by rw [hb4.cell (p := ⟨w3.heap.size, 1, none⟩) hsB]; exact hc1
  clear hc0 hc1
  go_wp2_with fail
  exact bodyPost_ret (v := .tuple #[.agg #[.int .i64 x, .int .i64 y], .int .i64 0]) (by simp [results, Tryd.results11, go_sem, d0, d1]) rfl ⟨rfl, (HR5.out.1.setCell (Nat.le_refl _) _).setCell (Nat.le_refl _) _⟩

theorem specPref_walk (l : List UInt8) (w : World) (hl : l.length ≤ 1048576) :
    Calls Tryd.prog 11 #[.string (bs l)] w fun e w' => e = .returned (.tuple #[.agg #[.int .i64 (pfA l), .int .i64 (pfB l)], .int .i64 (pfC l)]) ∧ Below w.heap.size w w' := by
  by_cases hbig : 18 < l.length
  · have hn : pfOK l = false := by
      cases e : pfOK l with
      | false => rfl
      | true => exact absurd (pf_short e) (by omega)
    exact spref_big l w hbig hl hn
  · by_cases h2 : (splitL 47 l).length = 2
    · obtain ⟨a, b, hs⟩ : ∃ a b, splitL 47 l = [a, b] := by
        match h : splitL 47 l with
        | [a, b] => exact ⟨a, b, rfl⟩
        | [] => rw [h] at h2; cases h2
        | [_] => rw [h] at h2; cases h2
        | _ :: _ :: _ :: _ => rw [h] at h2; simp at h2
      have hk := pf_two hs
      rw [pf_spec] at hk
      have hl8 : l.length ≤ 18 := by omega
      cases had : adOK a with
      | false => exact spref_ad l a b w hl8 hs (by rw [hk, had]; rfl) had
      | true =>
        cases hnum : numF b 2 with
        | false => exact spref_num l a b w hl8 hs (by rw [hk, had, hnum]; rfl) had hnum
        | true =>
          cases hp : prefB (adX a) (numV b) with
          | false => exact spref_bad l a b w hl8 hs (by rw [hk, had, hnum, hp]; rfl) had hnum hp
          | true => exact spref_good l a b w hl8 hs (pf_yes hs (by rw [hk, had, hnum, hp]; rfl)) had hnum hp
    · exact spref_len l w (by omega) h2 (pf_len h2)
end Go.Proofs.YtmgjagajcmeikalDoor
