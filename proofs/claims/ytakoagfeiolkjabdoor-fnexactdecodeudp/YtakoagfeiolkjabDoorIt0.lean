/-
Contracts of functions of this seat.
-/
import Derived.Test.YtakoagfeiolkjabDoorRows
import Derived.WalkKit
import Derived.ProofKit
import Derived.OpenShut
import Derived.Test.YtakoagfeiolkjabDoorDst
import Derived.Test.YtakoagfeiolkjabDoorIps
namespace Go.Proofs.YtakoagfeiolkjabDoor
open Go.ChangeShapes Go.WideShapes Go.ChangeAt Go.RowKit
set_option linter.unusedVariables false
set_option maxRecDepth 100000
theorem left0_walk (g n cap : Nat) (a : Option Addr) (ev : Value) (w : World) (hc : Cur w g (.slice a n cap) 0 ev) (hn : n ≤ 140737488355328) :
    Calls Tryd.prog 54 #[.pointer (some ⟨g, 0, none⟩)] w fun e w' => e = .returned (.int .i64 (n : Int)) ∧ ∃ m, w' = w.drewN m := by
  have h := left_walk g 0 n cap a ev w hc hn (Nat.zero_le _)
  rw [show (n : Int) - ((0 : Nat) : Int) = (n : Int) by omega] at h
  exact h
theorem tk1 (g p n cap b off : Nat) (zs : List Int) (w : World) (hc : Cur w g (.slice (some ⟨b, off, none⟩) n cap) p .nilIface) (hn : n ≤ 1048576) (hk : p + 1 ≤ n) (hcap : n ≤ cap) (hz : zs.length = n) (ha : Arr w (some ⟨b, off, none⟩) zs) (hb : b ≠ g) :
    Calls Tryd.prog 51 #[.pointer (some ⟨g, 0, none⟩), .int .i64 1] w fun e w' => e = .returned (.int .i64 (tnum ((zs.drop p).take 1))) ∧ Cur w' g (.slice (some ⟨b, off, none⟩) n cap) (p + 1) .nilIface ∧ w.grownBy w' (some g) :=
  take_ok g p n cap b off 1 zs w hc hn hk (by omega) hcap hz ha hb (by omega)
theorem ps2 (g p n cap b off : Nat) (w : World) (hc : Cur w g (.slice (some ⟨b, off, none⟩) n cap) p .nilIface) (hn : n ≤ 1048576) (hk : p + 2 ≤ n) (hcap : n ≤ cap) :
    Calls Tryd.prog 67 #[.pointer (some ⟨g, 0, none⟩), .int .i64 2] w fun e w' => e = .returned (.slice (some ⟨b, off + p, none⟩) 2 (cap - p)) ∧ Cur w' g (.slice (some ⟨b, off, none⟩) n cap) (p + 2) .nilIface ∧ w.grownBy w' (some g) :=
  pass_ok g p n cap b off 2 w hc (by omega) hk (by omega) hcap
theorem demand_if (g p : Nat) (bv : Value) (code : Int) (t : Bool) (w : World) (hc : Cur w g bv p .nilIface) :
    Calls Tryd.prog 41 #[.pointer (some ⟨g, 0, none⟩), .bool t, .int .i64 code] w fun e w' => e = .returned (.tuple #[]) ∧ Cur w' g bv p (if t then .nilIface else wErr code) ∧ w.grownBy w' (some g) := by
  cases t with
  | true =>
    refine (demand_yes g p bv code w hc).mono ?_
    rintro e w' ⟨rfl, rfl⟩
    exact ⟨rfl, hc, World.grownBy.refl _ _⟩
  | false => exact demand_no g p bv code w hc
set_option maxHeartbeats 1000000 in
theorem takeBytes_zero (g p n cap b off : Nat) (w : World) (hc : Cur w g (.slice (some ⟨b, off, none⟩) n cap) p .nilIface) (hn : n ≤ 1048576) (hp : p ≤ n) (hcap : n ≤ cap) :
    Calls Tryd.prog 53 #[.pointer (some ⟨g, 0, none⟩), .int .i64 0] w fun e w' => ∃ v, e = .returned v ∧ OwnB w' w.heap.size v [] ∧ Cur w' g (.slice (some ⟨b, off, none⟩) n cap) p .nilIface ∧ w.grownBy w' (some g) := by
  have CP := hide (pass_zero g p n cap b off w hc (by omega) hp hcap)
  obtain ⟨i, hi, hz0, hz1, hz2⟩ := info_parts Tryd.infoB
  have hs : (Tryd.prog.info? 5).map (·.size) = some 1 := by rw [hi]; simp [hz1]
  have HR := hide (fun w (d s : Option Addr) => run_copy_none (P := Tryd.prog) w 22 22 3 5 d s 0 0 0 (cap - p) Tryd.underlying22 hs (by simp))
  have hgl := hc.lt
  clear hi hz0 hz1 hz2 hs hc
  go_enter Tryd.func53, Tryd.ntmps53
  go_wp2_with fail
  refine CP.out.mono ?_
  rintro e w1 ⟨a', rfl, hc1, hg1⟩
  have rm : (Instr.makeSlice 22 (.int .i64 0) (.int .i64 0)).run Tryd.prog w1 = .ok (.slice (some ⟨w1.heap.size, 0, none⟩) 0 0) (w1.alloc (.cells (bval (List.replicate 0 0)).toArray 5)) := run_bytes 0 w1 (by omega)
  have hal := World.grownBy_alloc w1 (.cells (bval (List.replicate 0 0)).toArray 5) (some g)
  have hrow : RowB (w1.alloc (.cells (bval (List.replicate 0 0)).toArray 5)) w1.heap.size [] := heap_alloc_new _ _
  have HOW : Hid (OwnB _ w.heap.size (.slice (some ⟨w1.heap.size, 0, none⟩) 0 0) []) := hide (hrow.own (B := w.heap.size) hg1.size (by simp) (by simp))
  have HCW := hide (hc1.kept (World.grownBy_alloc w1 (.cells (bval (List.replicate 0 0)).toArray 5) none) (by simp))
  have HGW := hide (grown_trans hg1 hal)
  have hr := HR.out (w1.alloc (.cells (bval (List.replicate 0 0)).toArray 5)) (some ⟨w1.heap.size, 0, none⟩) a'
  clear hal hrow hc1 hg1 HR
  generalize w1.alloc (.cells (bval (List.replicate 0 0)).toArray 5) = W at *
  go_wp2_with fail
  go_ret
  exact ⟨_, rfl, HOW.out, HCW.out, HGW.out⟩
theorem takeBytes_any (g p n cap b off k : Nat) (zs : List Int) (w : World) (hc : Cur w g (.slice (some ⟨b, off, none⟩) n cap) p .nilIface) (hn : n ≤ 1048576) (hk : p + k ≤ n) (hcap : n ≤ cap) (hz : zs.length = n) (ha : Arr w (some ⟨b, off, none⟩) zs) (hb : b ≠ g) :
    Calls Tryd.prog 53 #[.pointer (some ⟨g, 0, none⟩), .int .i64 (k : Int)] w fun e w' => ∃ v, e = .returned v ∧ OwnB w' w.heap.size v ((zs.drop p).take k) ∧ Cur w' g (.slice (some ⟨b, off, none⟩) n cap) (p + k) .nilIface ∧ w.grownBy w' (some g) := by
  cases k with
  | zero => exact takeBytes_zero g p n cap b off w hc hn (by omega) hcap
  | succ j => exact takeBytes_ok g p n cap b off (j + 1) zs w hc hn hk (by omega) hcap hz ha hb
theorem only_cell {w : World} {g F : Nat} (i : Nat) (u : Value) : Only [g, F] w (w.setCell ⟨F, i, none⟩ u) := (Only.of_some (grown_cell w F i u)).mono (by simp)
theorem only_g {w w' : World} {g F : Nat} (h : w.grownBy w' (some g)) : Only [g, F] w w' := (Only.of_some h).mono (by simp)
theorem only_drew {S : List Nat} (w : World) : Only S w w.drew := ⟨rfl, rfl, rfl, Nat.le_refl _, fun _ _ _ => rfl⟩
theorem only_drewN {S : List Nat} (w : World) (m : Nat) : Only S w (w.drewN m) := ⟨rfl, rfl, rfl, Nat.le_refl _, fun _ _ _ => rfl⟩
theorem passed_zero (g n cap : Nat) (a : Option Addr) (ev : Value) (w : World) (hc : Cur w g (.slice a n cap) 0 ev) : Calls Tryd.prog 70 #[.pointer (some ⟨g, 0, none⟩)] w fun e w' => (∃ a2, e = .returned (.slice a2 0 cap)) ∧ ∃ m, w' = w.drewN m := by
  obtain ⟨c0, c1, c2, cf⟩ := hc.cells
  have hs : ∀ w : World, (sizeOf (Tryd.prog.elem 22)).run Tryd.prog w = .ok 1 w := fun w => Tryd.sizeOf5 w
  have sl : ∀ w : World, (Instr.slice 22 (.slice a n cap) none (some (.int .i64 0)) none).run Tryd.prog w = .ok (.slice (if cap = 0 then a else a.map (·.add 0)) 0 cap) w := fun w => by
    rw [run_slice_h (P := Tryd.prog) (w := w) 22 a n cap Tryd.underlying22 .i64 0 (by omega) (by omega), hs]
    simp [sliced, Result.andThen]
  generalize (if cap = 0 then a else a.map (·.add 0)) = a2 at sl
  clear hc hs
  go_enter Tryd.func70, Tryd.ntmps70
  go_wp2
  go_quiet (fail)
  go_wp2
  go_ret
  exact ⟨⟨_, rfl⟩, _, rfl⟩
end Go.Proofs.YtakoagfeiolkjabDoor
