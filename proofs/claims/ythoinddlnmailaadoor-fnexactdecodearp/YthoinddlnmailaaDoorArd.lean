/-
Contracts of functions of this seat.
-/
import Derived.Test.YthoinddlnmailaaDoorRows
import Derived.WalkKit
import Derived.ProofKit
import Derived.OpenShut
import Derived.Test.YthoinddlnmailaaDoorArs
namespace Go.Proofs.YthoinddlnmailaaDoor
open Go.ChangeShapes Go.WideShapes Go.ChangeAt Go.RowKit
set_option linter.unusedVariables false
set_option maxRecDepth 100000
def daO (zs : List Int) : Int := tnum ((zs.drop 6).take 2)
def daM (zs : List Int) : Int := tnum ((zs.drop 8).take 6)
def daS (zs : List Int) : Int := tnum ((zs.drop 14).take 4)
def daU (zs : List Int) : Int := tnum ((zs.drop 18).take 6)
def daT (zs : List Int) : Int := tnum ((zs.drop 24).take 4)
def daB (zs : List Int) : Bool := decide (zs.take 6 = arHead) && arOK (daO zs) (daM zs) (daS zs) (daU zs) (daT zs)
/-- What DecodeArp tells of bytes. -/
def daC (zs : List Int) : Int := if zs.length < 28 then 2 else if 28 < zs.length then 5 else if daB zs then 0 else 9
def ResA (w0 w : World) : Prop := Below w0.heap.size w0 w ∧ w0.heap.size < w.heap.size ∧ w.heap[w0.heap.size]? = some (.cells #[.int .i64 0, .int .i64 0, .int .i64 0, .int .i64 0, .int .i64 0] 44)
theorem ResA.start (w0 : World) : ResA w0 (w0.alloc (.cells #[.int .i64 0, .int .i64 0, .int .i64 0, .int .i64 0, .int .i64 0] 44)) :=
  ⟨(Below.refl _ _).alloc (Nat.le_refl _) _, by rw [World.size_alloc]; omega, heap_alloc_new _ _⟩
theorem ResA.next {w0 w w' : World} (h : ResA w0 w) (hb : Below w.heap.size w w') : ResA w0 w' :=
  ⟨h.1.trans (hb.mono h.1.size), by have := hb.size; have := h.2.1; omega, by rw [hb.block _ h.2.1]; exact h.2.2⟩
theorem ResA.drew {w0 w : World} (h : ResA w0 w) : ResA w0 w.drew := h.next ((Below.refl _ _).drew)
theorem ResA.cells {w0 w : World} (h : ResA w0 w) : w.cell? ⟨w0.heap.size, 0, none⟩ = some (.int .i64 0) ∧ w.cell? ⟨w0.heap.size, 1, none⟩ = some (.int .i64 0) ∧ w.cell? ⟨w0.heap.size, 2, none⟩ = some (.int .i64 0) ∧ w.cell? ⟨w0.heap.size, 3, none⟩ = some (.int .i64 0) ∧ w.cell? ⟨w0.heap.size, 4, none⟩ = some (.int .i64 0) ∧ ∀ o, w.frozen? ⟨w0.heap.size, o, none⟩ = false := five_cells h.2.2
set_option maxHeartbeats 1000000 in
theorem specDecA_short (a : Option Addr) (n cap : Nat) (w : World) (h : n < 28) :
    Calls Tryd.prog 22 #[.slice a n cap] w fun e w' => e = .returned (.tuple #[.agg #[.int .i64 0, .int .i64 0, .int .i64 0, .int .i64 0, .int .i64 0], .int .i64 2]) ∧ Below w.heap.size w w' := by
  have HR := hide (ResA.start w)
  go_enter Tryd.func22, Tryd.ntmps22
  go_wp2_with fail
  exact bodyPost_ret (v := .tuple #[.agg #[.int .i64 0, .int .i64 0, .int .i64 0, .int .i64 0, .int .i64 0], .int .i64 2]) (by simp [results, Tryd.results22, go_sem]) rfl ⟨rfl, HR.out.1⟩
set_option maxHeartbeats 1000000 in
theorem specDecA_long (a : Option Addr) (n cap : Nat) (w : World) (h : 28 < n) (hm : n ≤ 1048576) :
    Calls Tryd.prog 22 #[.slice a n cap] w fun e w' => e = .returned (.tuple #[.agg #[.int .i64 0, .int .i64 0, .int .i64 0, .int .i64 0, .int .i64 0], .int .i64 5]) ∧ Below w.heap.size w w' := by
  have HR := hide (ResA.start w)
  go_enter Tryd.func22, Tryd.ntmps22
  go_wp2_with fail
  exact bodyPost_ret (v := .tuple #[.agg #[.int .i64 0, .int .i64 0, .int .i64 0, .int .i64 0, .int .i64 0], .int .i64 5]) (by simp [results, Tryd.results22, go_sem]) rfl ⟨rfl, HR.out.1⟩
theorem same_head (b off cap : Nat) (zs : List Int) (W : World) (v : Value) (B : Nat) (hn : zs.length = 28) (ha : Arr W (some ⟨b, off, none⟩) zs) (hv : OwnB W B v arHead) :
    Calls Tryd.prog 50 #[.slice (some ⟨b, off, none⟩) 6 cap, v] W fun r w' => r = .returned (.bool (decide (zs.take 6 = arHead))) ∧ w' = W := by
  obtain ⟨a', c, rfl, ha'⟩ := own_slice hv
  exact l03Same_walk (some ⟨b, off, none⟩) a' 6 6 cap c (zs.take 6) arHead W (by rw [List.length_take]; omega) rfl (ha.take 6) ha'
theorem below_five {w w' : World} {x0 x1 x2 x3 x4 : Value} (h : Below w.heap.size w w') : Below w.heap.size w (((((w'.setCell ⟨w.heap.size, 0, none⟩ x0).setCell ⟨w.heap.size, 1, none⟩ x1).setCell ⟨w.heap.size, 2, none⟩ x2).setCell ⟨w.heap.size, 3, none⟩ x3).setCell ⟨w.heap.size, 4, none⟩ x4) :=
  ((((h.setCell (p := ⟨w.heap.size, 0, none⟩) (Nat.le_refl _) _).setCell (p := ⟨w.heap.size, 1, none⟩) (Nat.le_refl _) _).setCell (p := ⟨w.heap.size, 2, none⟩) (Nat.le_refl _) _).setCell (p := ⟨w.heap.size, 3, none⟩) (Nat.le_refl _) _).setCell (p := ⟨w.heap.size, 4, none⟩) (Nat.le_refl _) _
theorem below_fiveG {B g : Nat} {w w' : World} {x0 x1 x2 x3 x4 : Value} (h : Below B w w') (hg : B ≤ g) : Below B w (((((w'.setCell ⟨g, 0, none⟩ x0).setCell ⟨g, 1, none⟩ x1).setCell ⟨g, 2, none⟩ x2).setCell ⟨g, 3, none⟩ x3).setCell ⟨g, 4, none⟩ x4) :=
  ((((h.setCell (p := ⟨g, 0, none⟩) hg _).setCell (p := ⟨g, 1, none⟩) hg _).setCell (p := ⟨g, 2, none⟩) hg _).setCell (p := ⟨g, 3, none⟩) hg _).setCell (p := ⟨g, 4, none⟩) hg _
/-- The Arp that was read lies in block g. -/
def ArpAt (w : World) (g : Nat) (o m s u t : Int) : Prop := w.heap[g]? = some (.cells #[.int .i64 o, .int .i64 m, .int .i64 s, .int .i64 u, .int .i64 t] 44)
theorem ArpAt.lt {w : World} {g : Nat} {o m s u t : Int} (h : ArpAt w g o m s u t) : g < w.heap.size := (Array.getElem?_eq_some_iff.1 h).1
theorem ArpAt.next {w w' : World} {g : Nat} {o m s u t : Int} (h : ArpAt w g o m s u t) (hb : Below w.heap.size w w') : ArpAt w' g o m s u t := (hb.block g h.lt).trans h
theorem ArpAt.cells {w : World} {g : Nat} {o m s u t : Int} (h : ArpAt w g o m s u t) : w.cell? ⟨g, 0, none⟩ = some (.int .i64 o) ∧ w.cell? ⟨g, 1, none⟩ = some (.int .i64 m) ∧ w.cell? ⟨g, 2, none⟩ = some (.int .i64 s) ∧ w.cell? ⟨g, 3, none⟩ = some (.int .i64 u) ∧ w.cell? ⟨g, 4, none⟩ = some (.int .i64 t) ∧ ∀ o, w.frozen? ⟨g, o, none⟩ = false := five_cells h
theorem arp_made (w : World) (o m s u t : Int) : ArpAt (((((((w.alloc (.cells #[.int .i64 0, .int .i64 0, .int .i64 0, .int .i64 0, .int .i64 0] 44)).setCell ⟨w.heap.size, 0, none⟩ (.int .i64 o)).setCell ⟨w.heap.size, 1, none⟩ (.int .i64 m)).setCell ⟨w.heap.size, 2, none⟩ (.int .i64 s)).setCell ⟨w.heap.size, 3, none⟩ (.int .i64 u)).setCell ⟨w.heap.size, 4, none⟩ (.int .i64 t))) w.heap.size o m s u t := by
  have h0 := heap_alloc_new w (.cells #[.int .i64 0, .int .i64 0, .int .i64 0, .int .i64 0, .int .i64 0] 44)
  exact heap_setCell_same _ _ 4 _ _ _ (heap_setCell_same _ _ 3 _ _ _ (heap_setCell_same _ _ 2 _ _ _ (heap_setCell_same _ _ 1 _ _ _ (heap_setCell_same _ _ 0 _ _ _ h0))))
theorem keptA {w W W' : World} {g : Nat} {xo xm xs xu xt : Value} (h : ResA w W ∧ W.cell? ⟨g, 0, none⟩ = some xo ∧ W.cell? ⟨g, 1, none⟩ = some xm ∧ W.cell? ⟨g, 2, none⟩ = some xs ∧ W.cell? ⟨g, 3, none⟩ = some xu ∧ W.cell? ⟨g, 4, none⟩ = some xt) (hb : Below W.heap.size W W') : ResA w W' ∧ W'.cell? ⟨g, 0, none⟩ = some xo ∧ W'.cell? ⟨g, 1, none⟩ = some xm ∧ W'.cell? ⟨g, 2, none⟩ = some xs ∧ W'.cell? ⟨g, 3, none⟩ = some xu ∧ W'.cell? ⟨g, 4, none⟩ = some xt := by
  obtain ⟨h1, c0, c1, c2, c3, c4⟩ := h
  have hg : g < W.heap.size := World.block_lt_of_cell? W ⟨g, 0, none⟩ c0
  exact ⟨h1.next hb, by rw [hb.cell (p := ⟨g, 0, none⟩) hg]; exact c0, by rw [hb.cell (p := ⟨g, 1, none⟩) hg]; exact c1, by rw [hb.cell (p := ⟨g, 2, none⟩) hg]; exact c2, by rw [hb.cell (p := ⟨g, 3, none⟩) hg]; exact c3, by rw [hb.cell (p := ⟨g, 4, none⟩) hg]; exact c4⟩
set_option maxHeartbeats 8000000 in
theorem specDecA_mid (b off cap : Nat) (zs : List Int) (w : World) (hn : zs.length = 28) (ha : Arr w (some ⟨b, off, none⟩) zs) (hc : 28 ≤ cap) :
    Calls Tryd.prog 22 #[.slice (some ⟨b, off, none⟩) 28 cap] w fun r w' => r = .returned (.tuple #[.agg #[.int .i64 (if daB zs then daO zs else 0), .int .i64 (if daB zs then daM zs else 0), .int .i64 (if daB zs then daS zs else 0), .int .i64 (if daB zs then daU zs else 0), .int .i64 (if daB zs then daT zs else 0)], .int .i64 (if daB zs then 0 else 9)]) ∧ Below w.heap.size w w' := by
  have HR := hide (ResA.start w)
  have N0 := hide (fun W (hb : Below w.heap.size w W) => l03Num_walk (some ⟨b, off + 6, none⟩) 2 (cap - 6) ((zs.drop 6).take 2) W (by rw [List.length_take, List.length_drop]; omega) (((ha.below hb (Nat.le_refl _)).drop 6).take 2) (by omega))
  have s0 : ∀ w : World, (Instr.slice 22 (.slice (some ⟨b, off, none⟩) 28 cap) (some (.int .i64 6)) (some (.int .i64 8)) none).run Tryd.prog w = .ok (.slice (some ⟨b, off + 6, none⟩) 2 (cap - 6)) w := sl_part b off 28 cap 6 8 (by omega) (by omega) (by omega)
  have N1 := hide (fun W (hb : Below w.heap.size w W) => l03Num_walk (some ⟨b, off + 8, none⟩) 6 (cap - 8) ((zs.drop 8).take 6) W (by rw [List.length_take, List.length_drop]; omega) (((ha.below hb (Nat.le_refl _)).drop 8).take 6) (by omega))
  have s1 : ∀ w : World, (Instr.slice 22 (.slice (some ⟨b, off, none⟩) 28 cap) (some (.int .i64 8)) (some (.int .i64 14)) none).run Tryd.prog w = .ok (.slice (some ⟨b, off + 8, none⟩) 6 (cap - 8)) w := sl_part b off 28 cap 8 14 (by omega) (by omega) (by omega)
  have N2 := hide (fun W (hb : Below w.heap.size w W) => l03Num_walk (some ⟨b, off + 14, none⟩) 4 (cap - 14) ((zs.drop 14).take 4) W (by rw [List.length_take, List.length_drop]; omega) (((ha.below hb (Nat.le_refl _)).drop 14).take 4) (by omega))
  have s2 : ∀ w : World, (Instr.slice 22 (.slice (some ⟨b, off, none⟩) 28 cap) (some (.int .i64 14)) (some (.int .i64 18)) none).run Tryd.prog w = .ok (.slice (some ⟨b, off + 14, none⟩) 4 (cap - 14)) w := sl_part b off 28 cap 14 18 (by omega) (by omega) (by omega)
  have N3 := hide (fun W (hb : Below w.heap.size w W) => l03Num_walk (some ⟨b, off + 18, none⟩) 6 (cap - 18) ((zs.drop 18).take 6) W (by rw [List.length_take, List.length_drop]; omega) (((ha.below hb (Nat.le_refl _)).drop 18).take 6) (by omega))
  have s3 : ∀ w : World, (Instr.slice 22 (.slice (some ⟨b, off, none⟩) 28 cap) (some (.int .i64 18)) (some (.int .i64 24)) none).run Tryd.prog w = .ok (.slice (some ⟨b, off + 18, none⟩) 6 (cap - 18)) w := sl_part b off 28 cap 18 24 (by omega) (by omega) (by omega)
  have N4 := hide (fun W (hb : Below w.heap.size w W) => l03Num_walk (some ⟨b, off + 24, none⟩) 4 (cap - 24) ((zs.drop 24).take 4) W (by rw [List.length_take, List.length_drop]; omega) (((ha.below hb (Nat.le_refl _)).drop 24).take 4) (by omega))
  have s4 : ∀ w : World, (Instr.slice 22 (.slice (some ⟨b, off, none⟩) 28 cap) (some (.int .i64 24)) none none).run Tryd.prog w = .ok (.slice (some ⟨b, off + 24, none⟩) 4 (cap - 24)) w := sl_from b off 28 cap 24 (by omega) (by omega)
  have s5 : ∀ w : World, (Instr.slice 22 (.slice (some ⟨b, off, none⟩) 28 cap) none (some (.int .i64 6)) none).run Tryd.prog w = .ok (.slice (some ⟨b, off, none⟩) 6 cap) w := sl_to b off 28 cap 6 (by omega) (by omega)
  have CS := hide (fun W v B (hb : Below w.heap.size w W) (hv : OwnB W B v arHead) => same_head b off cap zs W v B hn (ha.below hb (Nat.le_refl _)) hv)
  have HO : Hid (daO zs = tnum ((zs.drop 6).take 2)) := hide rfl
  have HM : Hid (daM zs = tnum ((zs.drop 8).take 6)) := hide rfl
  have HS : Hid (daS zs = tnum ((zs.drop 14).take 4)) := hide rfl
  have HU : Hid (daU zs = tnum ((zs.drop 18).take 6)) := hide rfl
  have HT : Hid (daT zs = tnum ((zs.drop 24).take 4)) := hide rfl
  rw [← HO.out] at N0
  rw [← HM.out] at N1
  rw [← HS.out] at N2
  rw [← HU.out] at N3
  rw [← HT.out] at N4
  have HD : Hid (daB zs = (decide (zs.take 6 = arHead) && arOK (daO zs) (daM zs) (daS zs) (daU zs) (daT zs))) := hide rfl
  obtain ⟨r0, hr0⟩ : ∃ r, r = if daB zs then daO zs else 0 := ⟨_, rfl⟩
  obtain ⟨r1, hr1⟩ : ∃ r, r = if daB zs then daM zs else 0 := ⟨_, rfl⟩
  obtain ⟨r2, hr2⟩ : ∃ r, r = if daB zs then daS zs else 0 := ⟨_, rfl⟩
  obtain ⟨r3, hr3⟩ : ∃ r, r = if daB zs then daU zs else 0 := ⟨_, rfl⟩
  obtain ⟨r4, hr4⟩ : ∃ r, r = if daB zs then daT zs else 0 := ⟨_, rfl⟩
  obtain ⟨rc, hrc⟩ : ∃ r : Int, r = if daB zs then 0 else 9 := ⟨_, rfl⟩
  rw [← hr0, ← hr1, ← hr2, ← hr3, ← hr4, ← hrc]
  have HR0 := hide hr0
  have HR1 := hide hr1
  have HR2 := hide hr2
  have HR3 := hide hr3
  have HR4 := hide hr4
  have HRC := hide hrc
  clear hr0 hr1 hr2 hr3 hr4 hrc
  have CK := hide (fun w => l04OK_walk (daO zs) (daM zs) (daS zs) (daU zs) (daT zs) w)
  clear hn ha HO HM HS HU HT
  generalize daB zs = DB at *
  generalize daO zs = xo at *
  generalize daM zs = xm at *
  generalize daS zs = xs at *
  generalize daU zs = xu at *
  generalize daT zs = xt at *
  generalize decide (zs.take 6 = arHead) = HB0 at *
  generalize off + 6 = o6 at *
  generalize off + 8 = o8 at *
  generalize off + 14 = o14 at *
  generalize off + 18 = o18 at *
  generalize off + 24 = o24 at *
  generalize cap - 6 = c6 at *
  generalize cap - 8 = c8 at *
  generalize cap - 14 = c14 at *
  generalize cap - 18 = c18 at *
  generalize cap - 24 = c24 at *
  go_enter Tryd.func22, Tryd.ntmps22
  go_wp2_with fail
  generalize w.alloc (.cells #[.int .i64 0, .int .i64 0, .int .i64 0, .int .i64 0, .int .i64 0] 44) = W at *
  go_cut [4] from 13 to 28 (fun s4 wx => ∃ g, s4 = .pointer (some ⟨g, 0, none⟩) ∧ Hid (ResA w wx) ∧ Hid (ArpAt wx g xo xm xs xu xt))
  case first =>
    go_region_held3 (fun w' => Below w.heap.size w w') (first | assumption | exact below_next (by assumption) (by assumption) | exact HR.out.1.drew | exact (HR.out.1.alloc HR.out.1.size _).drew | exact below_fiveG (by assumption) HR.out.1.size)
      (first
        | (go_at_call_of 52 (Value.slice (some ⟨b, o6, none⟩) 2 c6); refine (N0.out _ (by assumption)).mono ?_; rintro r w' ⟨rfl, rfl⟩)
        | (go_at_call_of 52 (Value.slice (some ⟨b, o8, none⟩) 6 c8); refine (N1.out _ (by assumption)).mono ?_; rintro r w' ⟨rfl, rfl⟩)
        | (go_at_call_of 52 (Value.slice (some ⟨b, o14, none⟩) 4 c14); refine (N2.out _ (by assumption)).mono ?_; rintro r w' ⟨rfl, rfl⟩)
        | (go_at_call_of 52 (Value.slice (some ⟨b, o18, none⟩) 6 c18); refine (N3.out _ (by assumption)).mono ?_; rintro r w' ⟨rfl, rfl⟩)
        | (go_at_call_of 52 (Value.slice (some ⟨b, o24, none⟩) 4 c24); refine (N4.out _ (by assumption)).mono ?_; rintro r w' ⟨rfl, rfl⟩))
    all_goals (go_wp2_with fail; go_meet; exact ⟨W.heap.size, rfl, hide (HR.out.next ((Below.refl _ _).alloc (Nat.le_refl _) _)).drew, hide (heap_alloc_new _ _)⟩)
  case rest =>
    obtain ⟨g, rfl, HRA, HA⟩ := hcut
    clear N0 N1 N2 N3 N4 s0 s1 s2 s3 s4 HR
    obtain ⟨a0, a1, a2, a3, a4, af⟩ := HA.out.cells
    cases HB0 with
    | false =>
      have HDF : Hid (DB = false) := hide HD.out
      clear HD
      go_upto_region 6 with fail
      go_region_with (first
        | (go_at_call 54; refine (l04Head_walk _).mono ?_; rintro e w' ⟨uh, rfl, hOh, hbh⟩; have hR := HRA.out.drew.next hbh)
        | (go_at_call 50; refine (CS.out _ _ _ hR.1 hOh).mono ?_; rintro e w' ⟨rfl, rfl⟩))
      all_goals obtain ⟨d0, d1, d2, d3, d4, df⟩ := hR.cells
      all_goals go_wp2_with fail
      all_goals exact bodyPost_ret (v := .tuple #[.agg #[.int .i64 0, .int .i64 0, .int .i64 0, .int .i64 0, .int .i64 0], .int .i64 9]) (by simp [results, Tryd.results22, go_sem, d0, d1, d2, d3, d4]) rfl ⟨by rw [HR0.out, HR1.out, HR2.out, HR3.out, HR4.out, HRC.out, HDF.out]; rfl, below_five hR.1⟩
    | true =>
      cases hk : arOK xo xm xs xu xt with
      | false =>
        have HDF : Hid (DB = false) := hide (by rw [HD.out, hk]; rfl)
        rw [hk] at CK
        clear HD hk
        go_upto_region 6 with fail
        go_region_held3 (fun w' => ResA w w' ∧ w'.cell? ⟨g, 0, none⟩ = some (.int .i64 xo) ∧ w'.cell? ⟨g, 1, none⟩ = some (.int .i64 xm) ∧ w'.cell? ⟨g, 2, none⟩ = some (.int .i64 xs) ∧ w'.cell? ⟨g, 3, none⟩ = some (.int .i64 xu) ∧ w'.cell? ⟨g, 4, none⟩ = some (.int .i64 xt)) (first | assumption | exact ⟨HRA.out.drew, a0, a1, a2, a3, a4⟩ | exact keptA (by assumption) (by assumption))
          (first
            | (go_at_call 54; refine (l04Head_walk _).mono ?_; rintro e w' ⟨uh, rfl, hOh, hbh⟩)
            | (go_at_call 50; refine (CS.out _ _ _ (by assumption : ResA w _ ∧ _).1.1 hOh).mono ?_; rintro e w' ⟨rfl, rfl⟩)
            | (go_at_call 55; refine (CK.out _).mono ?_; rintro e w' ⟨rfl, hbk⟩))
        all_goals obtain ⟨hR, b0, b1, b2, b3, b4⟩ := (by assumption : ResA w _ ∧ _ ∧ _ ∧ _ ∧ _ ∧ _)
        all_goals obtain ⟨d0, d1, d2, d3, d4, df⟩ := hR.cells
        all_goals go_wp2_with fail
        all_goals exact bodyPost_ret (v := .tuple #[.agg #[.int .i64 0, .int .i64 0, .int .i64 0, .int .i64 0, .int .i64 0], .int .i64 9]) (by simp [results, Tryd.results22, go_sem, d0, d1, d2, d3, d4]) rfl ⟨by rw [HR0.out, HR1.out, HR2.out, HR3.out, HR4.out, HRC.out, HDF.out]; rfl, below_five hR.1⟩
      | true =>
        have HDF : Hid (DB = true) := hide (by rw [HD.out, hk]; rfl)
        rw [hk] at CK
        clear HD hk
        go_upto_region 6 with fail
        go_region_held3 (fun w' => ResA w w' ∧ w'.cell? ⟨g, 0, none⟩ = some (.int .i64 xo) ∧ w'.cell? ⟨g, 1, none⟩ = some (.int .i64 xm) ∧ w'.cell? ⟨g, 2, none⟩ = some (.int .i64 xs) ∧ w'.cell? ⟨g, 3, none⟩ = some (.int .i64 xu) ∧ w'.cell? ⟨g, 4, none⟩ = some (.int .i64 xt)) (first | assumption | exact ⟨HRA.out.drew, a0, a1, a2, a3, a4⟩ | exact keptA (by assumption) (by assumption))
          (first
            | (go_at_call 54; refine (l04Head_walk _).mono ?_; rintro e w' ⟨uh, rfl, hOh, hbh⟩)
            | (go_at_call 50; refine (CS.out _ _ _ (by assumption : ResA w _ ∧ _).1.1 hOh).mono ?_; rintro e w' ⟨rfl, rfl⟩)
            | (go_at_call 55; refine (CK.out _).mono ?_; rintro e w' ⟨rfl, hbk⟩))
        all_goals obtain ⟨hR, b0, b1, b2, b3, b4⟩ := (by assumption : ResA w _ ∧ _ ∧ _ ∧ _ ∧ _ ∧ _)
        all_goals obtain ⟨d0, d1, d2, d3, d4, df⟩ := hR.cells
        all_goals go_wp2_with fail
        all_goals exact bodyPost_ret (v := .tuple #[.agg #[.int .i64 xo, .int .i64 xm, .int .i64 xs, .int .i64 xu, .int .i64 xt], .int .i64 0]) (by simp [results, Tryd.results22, go_sem, d0, d1, d2, d3, d4]) rfl ⟨by rw [HR0.out, HR1.out, HR2.out, HR3.out, HR4.out, HRC.out, HDF.out]; rfl, below_five hR.1⟩
/-- DecodeArp of the specification. -/
theorem specDecA_walk (a : Option Addr) (n cap : Nat) (zs : List Int) (w : World) (hn : zs.length = n) (ha : Arr w a zs) (hm : n ≤ 1048576) (hc : n ≤ cap) :
    Calls Tryd.prog 22 #[.slice a n cap] w fun r w' => r = .returned (.tuple #[.agg #[.int .i64 (if daC zs = 0 then daO zs else 0), .int .i64 (if daC zs = 0 then daM zs else 0), .int .i64 (if daC zs = 0 then daS zs else 0), .int .i64 (if daC zs = 0 then daU zs else 0), .int .i64 (if daC zs = 0 then daT zs else 0)], .int .i64 (daC zs)]) ∧ Below w.heap.size w w' := by
  by_cases h1 : n < 28
  · have e : daC zs = 2 := by unfold daC; rw [if_pos (by omega)]
    rw [e]
    exact specDecA_short a n cap w h1
  · by_cases h2 : 28 < n
    · have e : daC zs = 5 := by unfold daC; rw [if_neg (by omega), if_pos (by omega)]
      rw [e]
      exact specDecA_long a n cap w h2 hm
    · obtain ⟨b, off, rfl, _⟩ := ha.2 0 (by omega)
      have e28 : n = 28 := by omega
      subst e28
      have h := specDecA_mid b off cap zs w hn ha hc
      have e : daC zs = if daB zs then 0 else 9 := by unfold daC; rw [if_neg (by omega), if_neg (by omega)]
      rw [e]
      cases hB : daB zs with
      | false => rw [hB] at h; exact h
      | true => rw [hB] at h; exact h
end Go.Proofs.YthoinddlnmailaaDoor
