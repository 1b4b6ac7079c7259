/-
Contracts of functions of this seat.
-/
import Derived.Test.YtakoagfeiolkjaaDoorRows
import Derived.WalkKit
import Derived.ProofKit
import Derived.OpenShut
import Derived.Test.YtakoagfeiolkjaaDoorDst
import Derived.Test.YtakoagfeiolkjaaDoorIpv
import Derived.Test.YtakoagfeiolkjaaDoorIph
namespace Go.Proofs.YtakoagfeiolkjaaDoor
open Go.ChangeShapes Go.WideShapes Go.ChangeAt Go.RowKit
set_option linter.unusedVariables false
set_option maxRecDepth 100000
theorem left0_walk (g n cap : Nat) (a : Option Addr) (ev : Value) (w : World) (hc : Cur w g (.slice a n cap) 0 ev) (hn : n ≤ 140737488355328) :
    Calls Tryd.prog 33 #[.pointer (some ⟨g, 0, none⟩)] w fun e w' => e = .returned (.int .i64 (n : Int)) ∧ ∃ m, w' = w.drewN m := by
  have h := left_walk g 0 n cap a ev w hc hn (Nat.zero_le _)
  rw [show (n : Int) - ((0 : Nat) : Int) = (n : Int) by omega] at h
  exact h
theorem tk1 (g p n cap b off : Nat) (zs : List Int) (w : World) (hc : Cur w g (.slice (some ⟨b, off, none⟩) n cap) p .nilIface) (hn : n ≤ 1048576) (hk : p + 1 ≤ n) (hcap : n ≤ cap) (hz : zs.length = n) (ha : Arr w (some ⟨b, off, none⟩) zs) (hb : b ≠ g) :
    Calls Tryd.prog 25 #[.pointer (some ⟨g, 0, none⟩), .int .i64 1] w fun e w' => e = .returned (.int .i64 (tnum ((zs.drop p).take 1))) ∧ Cur w' g (.slice (some ⟨b, off, none⟩) n cap) (p + 1) .nilIface ∧ w.grownBy w' (some g) :=
  take_ok g p n cap b off 1 zs w hc hn hk (by omega) hcap hz ha hb (by omega)
theorem ps2 (g p n cap b off : Nat) (w : World) (hc : Cur w g (.slice (some ⟨b, off, none⟩) n cap) p .nilIface) (hn : n ≤ 1048576) (hk : p + 2 ≤ n) (hcap : n ≤ cap) :
    Calls Tryd.prog 31 #[.pointer (some ⟨g, 0, none⟩), .int .i64 2] w fun e w' => e = .returned (.slice (some ⟨b, off + p, none⟩) 2 (cap - p)) ∧ Cur w' g (.slice (some ⟨b, off, none⟩) n cap) (p + 2) .nilIface ∧ w.grownBy w' (some g) :=
  pass_ok g p n cap b off 2 w hc (by omega) hk (by omega) hcap
theorem demand_if (g p : Nat) (bv : Value) (code : Int) (t : Bool) (w : World) (hc : Cur w g bv p .nilIface) :
    Calls Tryd.prog 29 #[.pointer (some ⟨g, 0, none⟩), .bool t, .int .i64 code] w fun e w' => e = .returned (.tuple #[]) ∧ Cur w' g bv p (if t then .nilIface else wErr code) ∧ w.grownBy w' (some g) := by
  cases t with
  | true =>
    refine (demand_yes g p bv code w hc).mono ?_
    rintro e w' ⟨rfl, rfl⟩
    exact ⟨rfl, hc, World.grownBy.refl _ _⟩
  | false => exact demand_no g p bv code w hc
set_option maxHeartbeats 1000000 in
theorem takeBytes_zero (g p n cap b off : Nat) (w : World) (hc : Cur w g (.slice (some ⟨b, off, none⟩) n cap) p .nilIface) (hn : n ≤ 1048576) (hp : p ≤ n) (hcap : n ≤ cap) :
    Calls Tryd.prog 32 #[.pointer (some ⟨g, 0, none⟩), .int .i64 0] w fun e w' => ∃ v, e = .returned v ∧ OwnB w' w.heap.size v [] ∧ Cur w' g (.slice (some ⟨b, off, none⟩) n cap) p .nilIface ∧ w.grownBy w' (some g) := by
  have CP := hide (pass_zero g p n cap b off w hc (by omega) hp hcap)
  obtain ⟨i, hi, hz0, hz1, hz2⟩ := info_parts Tryd.infoB
  have hs : (Tryd.prog.info? 5).map (·.size) = some 1 := by rw [hi]; simp [hz1]
  have HR := hide (fun w (d s : Option Addr) => run_copy_none (P := Tryd.prog) w 22 22 3 5 d s 0 0 0 (cap - p) Tryd.underlying22 hs (by simp))
  have hgl := hc.lt
  clear hi hz0 hz1 hz2 hs hc
  go_enter Tryd.func32, Tryd.ntmps32
  go_wp2_with fail
  refine CP.out.mono ?_
  rintro e w1 ⟨a', rfl, hc1, hg1⟩
  have rm : (Instr.makeSlice 22 (.int .i64 0) (.int .i64 0)).run Tryd.prog w1 = .ok (.slice (some ⟨w1.heap.size, 0, none⟩) 0 0) (w1.alloc (.cells (bval (List.replicate 0 0)).toArray 5)) := run_bytes 0 w1 (by omega)
  have hal := World.grownBy_alloc w1 (.cells (bval (List.replicate 0 0)).toArray 5) (some g)
  have hrow : RowB (w1.alloc (.cells (bval (List.replicate 0 0)).toArray 5)) w1.heap.size [] := heap_alloc_new _ _
  have HOW : Hid (OwnB _ w.heap.size (.slice (some ⟨w1.heap.size, 0, none⟩) 0 0) []) := hide (hrow.own (B := w.heap.size) hg1.size (by simp) (by simp))
  have HCW := hide (hc1.kept (World.grownBy_alloc w1 (.cells (bval (List.replicate 0 0)).toArray 5) none) (by simp))
  have HGW := hide (grown_trans hg1 hal)
  have hr := HR.out (w1.alloc (.cells (bval (List.replicate 0 0)).toArray 5)) (some ⟨w1.heap.size, 0, none⟩) a'
  clear hal hrow hc1 hg1 HR
  generalize w1.alloc (.cells (bval (List.replicate 0 0)).toArray 5) = W at *
  go_wp2_with fail
  go_ret
  exact ⟨_, rfl, HOW.out, HCW.out, HGW.out⟩
theorem takeBytes_any (g p n cap b off k : Nat) (zs : List Int) (w : World) (hc : Cur w g (.slice (some ⟨b, off, none⟩) n cap) p .nilIface) (hn : n ≤ 1048576) (hk : p + k ≤ n) (hcap : n ≤ cap) (hz : zs.length = n) (ha : Arr w (some ⟨b, off, none⟩) zs) (hb : b ≠ g) :
    Calls Tryd.prog 32 #[.pointer (some ⟨g, 0, none⟩), .int .i64 (k : Int)] w fun e w' => ∃ v, e = .returned v ∧ OwnB w' w.heap.size v ((zs.drop p).take k) ∧ Cur w' g (.slice (some ⟨b, off, none⟩) n cap) (p + k) .nilIface ∧ w.grownBy w' (some g) := by
  cases k with
  | zero => exact takeBytes_zero g p n cap b off w hc hn (by omega) hcap
  | succ j => exact takeBytes_ok g p n cap b off (j + 1) zs w hc hn hk (by omega) hcap hz ha hb
/-- A packet that is being read lies in block F. -/
def FR (w : World) (F : Nat) (y0 y1 y2 y3 y4 y5 y6 y7 y8 : Int) (vo vp : Value) : Prop := w.heap[F]? = some (.cells #[.int .i64 y0, .int .i64 y1, .int .i64 y2, .int .i64 y3, .int .i64 y4, .int .i64 y5, .int .i64 y6, .int .i64 y7, .int .i64 y8, vo, vp] 62)
theorem FR.lt {w : World} {F : Nat} {y0 y1 y2 y3 y4 y5 y6 y7 y8 : Int} {vo vp : Value} (h : FR w F y0 y1 y2 y3 y4 y5 y6 y7 y8 vo vp) : F < w.heap.size := (Array.getElem?_eq_some_iff.1 h).1
theorem FR.only {w w' : World} {F : Nat} {S : List Nat} {y0 y1 y2 y3 y4 y5 y6 y7 y8 : Int} {vo vp : Value} (h : FR w F y0 y1 y2 y3 y4 y5 y6 y7 y8 vo vp) (k : Only S w w') (hn : F ∉ S) : FR w' F y0 y1 y2 y3 y4 y5 y6 y7 y8 vo vp := (k.block F h.lt hn).trans h
theorem FR.drewN {w : World} {F : Nat} {y0 y1 y2 y3 y4 y5 y6 y7 y8 : Int} {vo vp : Value} (h : FR w F y0 y1 y2 y3 y4 y5 y6 y7 y8 vo vp) (m : Nat) : FR (w.drewN m) F y0 y1 y2 y3 y4 y5 y6 y7 y8 vo vp := h
theorem FR.drew {w : World} {F : Nat} {y0 y1 y2 y3 y4 y5 y6 y7 y8 : Int} {vo vp : Value} (h : FR w F y0 y1 y2 y3 y4 y5 y6 y7 y8 vo vp) : FR w.drew F y0 y1 y2 y3 y4 y5 y6 y7 y8 vo vp := h
theorem FR.cells {w : World} {F : Nat} {y0 y1 y2 y3 y4 y5 y6 y7 y8 : Int} {vo vp : Value} (h : FR w F y0 y1 y2 y3 y4 y5 y6 y7 y8 vo vp) : w.cell? ⟨F, 0, none⟩ = some (.int .i64 y0) ∧ w.cell? ⟨F, 1, none⟩ = some (.int .i64 y1) ∧ w.cell? ⟨F, 2, none⟩ = some (.int .i64 y2) ∧ w.cell? ⟨F, 3, none⟩ = some (.int .i64 y3) ∧ w.cell? ⟨F, 4, none⟩ = some (.int .i64 y4) ∧ w.cell? ⟨F, 5, none⟩ = some (.int .i64 y5) ∧ w.cell? ⟨F, 6, none⟩ = some (.int .i64 y6) ∧ w.cell? ⟨F, 7, none⟩ = some (.int .i64 y7) ∧ w.cell? ⟨F, 8, none⟩ = some (.int .i64 y8) ∧ w.cell? ⟨F, 9, none⟩ = some vo ∧ w.cell? ⟨F, 10, none⟩ = some vp ∧ ∀ o, w.frozen? ⟨F, o, none⟩ = false :=
  ⟨cell_of_row w F 0 _ _ _ h, cell_of_row w F 1 _ _ _ h, cell_of_row w F 2 _ _ _ h, cell_of_row w F 3 _ _ _ h, cell_of_row w F 4 _ _ _ h, cell_of_row w F 5 _ _ _ h, cell_of_row w F 6 _ _ _ h, cell_of_row w F 7 _ _ _ h, cell_of_row w F 8 _ _ _ h, cell_of_row w F 9 _ _ _ h, cell_of_row w F 10 _ _ _ h, fun o => frozen_of_row w F o _ _ h⟩
theorem FR.set0 {w : World} {F : Nat} {y0 y1 y2 y3 y4 y5 y6 y7 y8 : Int} {vo vp : Value} (h : FR w F y0 y1 y2 y3 y4 y5 y6 y7 y8 vo vp) (u : Int) : FR (w.setCell ⟨F, 0, none⟩ (.int .i64 u)) F u y1 y2 y3 y4 y5 y6 y7 y8 vo vp := heap_setCell_same w F 0 _ _ _ h
theorem FR.set1 {w : World} {F : Nat} {y0 y1 y2 y3 y4 y5 y6 y7 y8 : Int} {vo vp : Value} (h : FR w F y0 y1 y2 y3 y4 y5 y6 y7 y8 vo vp) (u : Int) : FR (w.setCell ⟨F, 1, none⟩ (.int .i64 u)) F y0 u y2 y3 y4 y5 y6 y7 y8 vo vp := heap_setCell_same w F 1 _ _ _ h
theorem FR.set2 {w : World} {F : Nat} {y0 y1 y2 y3 y4 y5 y6 y7 y8 : Int} {vo vp : Value} (h : FR w F y0 y1 y2 y3 y4 y5 y6 y7 y8 vo vp) (u : Int) : FR (w.setCell ⟨F, 2, none⟩ (.int .i64 u)) F y0 y1 u y3 y4 y5 y6 y7 y8 vo vp := heap_setCell_same w F 2 _ _ _ h
theorem FR.set3 {w : World} {F : Nat} {y0 y1 y2 y3 y4 y5 y6 y7 y8 : Int} {vo vp : Value} (h : FR w F y0 y1 y2 y3 y4 y5 y6 y7 y8 vo vp) (u : Int) : FR (w.setCell ⟨F, 3, none⟩ (.int .i64 u)) F y0 y1 y2 u y4 y5 y6 y7 y8 vo vp := heap_setCell_same w F 3 _ _ _ h
theorem FR.set4 {w : World} {F : Nat} {y0 y1 y2 y3 y4 y5 y6 y7 y8 : Int} {vo vp : Value} (h : FR w F y0 y1 y2 y3 y4 y5 y6 y7 y8 vo vp) (u : Int) : FR (w.setCell ⟨F, 4, none⟩ (.int .i64 u)) F y0 y1 y2 y3 u y5 y6 y7 y8 vo vp := heap_setCell_same w F 4 _ _ _ h
theorem FR.set5 {w : World} {F : Nat} {y0 y1 y2 y3 y4 y5 y6 y7 y8 : Int} {vo vp : Value} (h : FR w F y0 y1 y2 y3 y4 y5 y6 y7 y8 vo vp) (u : Int) : FR (w.setCell ⟨F, 5, none⟩ (.int .i64 u)) F y0 y1 y2 y3 y4 u y6 y7 y8 vo vp := heap_setCell_same w F 5 _ _ _ h
theorem FR.set6 {w : World} {F : Nat} {y0 y1 y2 y3 y4 y5 y6 y7 y8 : Int} {vo vp : Value} (h : FR w F y0 y1 y2 y3 y4 y5 y6 y7 y8 vo vp) (u : Int) : FR (w.setCell ⟨F, 6, none⟩ (.int .i64 u)) F y0 y1 y2 y3 y4 y5 u y7 y8 vo vp := heap_setCell_same w F 6 _ _ _ h
theorem FR.set7 {w : World} {F : Nat} {y0 y1 y2 y3 y4 y5 y6 y7 y8 : Int} {vo vp : Value} (h : FR w F y0 y1 y2 y3 y4 y5 y6 y7 y8 vo vp) (u : Int) : FR (w.setCell ⟨F, 7, none⟩ (.int .i64 u)) F y0 y1 y2 y3 y4 y5 y6 u y8 vo vp := heap_setCell_same w F 7 _ _ _ h
theorem FR.set8 {w : World} {F : Nat} {y0 y1 y2 y3 y4 y5 y6 y7 y8 : Int} {vo vp : Value} (h : FR w F y0 y1 y2 y3 y4 y5 y6 y7 y8 vo vp) (u : Int) : FR (w.setCell ⟨F, 8, none⟩ (.int .i64 u)) F y0 y1 y2 y3 y4 y5 y6 y7 u vo vp := heap_setCell_same w F 8 _ _ _ h
theorem FR.set9 {w : World} {F : Nat} {y0 y1 y2 y3 y4 y5 y6 y7 y8 : Int} {vo vp : Value} (h : FR w F y0 y1 y2 y3 y4 y5 y6 y7 y8 vo vp) (u : Value) : FR (w.setCell ⟨F, 9, none⟩ u) F y0 y1 y2 y3 y4 y5 y6 y7 y8 u vp := heap_setCell_same w F 9 _ _ _ h
theorem FR.set10 {w : World} {F : Nat} {y0 y1 y2 y3 y4 y5 y6 y7 y8 : Int} {vo vp : Value} (h : FR w F y0 y1 y2 y3 y4 y5 y6 y7 y8 vo vp) (u : Value) : FR (w.setCell ⟨F, 10, none⟩ u) F y0 y1 y2 y3 y4 y5 y6 y7 y8 vo u := heap_setCell_same w F 10 _ _ _ h
theorem only_cell {w : World} {g F : Nat} (i : Nat) (u : Value) : Only [g, F] w (w.setCell ⟨F, i, none⟩ u) := (Only.of_some (grown_cell w F i u)).mono (by simp)
theorem only_g {w w' : World} {g F : Nat} (h : w.grownBy w' (some g)) : Only [g, F] w w' := (Only.of_some h).mono (by simp)
theorem only_drew {S : List Nat} (w : World) : Only S w w.drew := ⟨rfl, rfl, rfl, Nat.le_refl _, fun _ _ _ => rfl⟩
theorem only_drewN {S : List Nat} (w : World) (m : Nat) : Only S w (w.drewN m) := ⟨rfl, rfl, rfl, Nat.le_refl _, fun _ _ _ => rfl⟩
theorem passed_zero (g n cap : Nat) (a : Option Addr) (ev : Value) (w : World) (hc : Cur w g (.slice a n cap) 0 ev) : Calls Tryd.prog 41 #[.pointer (some ⟨g, 0, none⟩)] w fun e w' => (∃ a2, e = .returned (.slice a2 0 cap)) ∧ ∃ m, w' = w.drewN m := by
  obtain ⟨c0, c1, c2, cf⟩ := hc.cells
  have hs : ∀ w : World, (sizeOf (Tryd.prog.elem 22)).run Tryd.prog w = .ok 1 w := fun w => Tryd.sizeOf5 w
  have sl : ∀ w : World, (Instr.slice 22 (.slice a n cap) none (some (.int .i64 0)) none).run Tryd.prog w = .ok (.slice (if cap = 0 then a else a.map (·.add 0)) 0 cap) w := fun w => by
    rw [run_slice_h (P := Tryd.prog) (w := w) 22 a n cap Tryd.underlying22 .i64 0 (by omega) (by omega), hs]
    simp [sliced, Result.andThen]
  generalize (if cap = 0 then a else a.map (·.add 0)) = a2 at sl
  clear hc hs
  go_enter Tryd.func41, Tryd.ntmps41
  go_wp2
  go_quiet (fail)
  go_wp2
  go_ret
  exact ⟨⟨_, rfl⟩, _, rfl⟩
end Go.Proofs.YtakoagfeiolkjaaDoor
