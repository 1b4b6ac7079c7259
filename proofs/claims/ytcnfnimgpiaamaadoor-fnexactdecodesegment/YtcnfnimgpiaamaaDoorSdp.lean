/-
Contracts of functions of this seat.
-/
import Derived.Test.YtcnfnimgpiaamaaDoorRows
import Derived.WalkKit
import Derived.ProofKit
import Derived.OpenShut
import Derived.Test.YtcnfnimgpiaamaaDoorSdo
import Derived.Test.YtcnfnimgpiaamaaDoorSd8
namespace Go.Proofs.YtcnfnimgpiaamaaDoor
open Go.ChangeShapes Go.WideShapes Go.ChangeAt Go.RowKit
set_option linter.unusedVariables false
set_option maxRecDepth 100000
theorem left0_walk (g n cap : Nat) (a : Option Addr) (ev : Value) (w : World) (hc : Cur w g (.slice a n cap) 0 ev) (hn : n ≤ 140737488355328) :
    Calls Tryd.prog 48 #[.pointer (some ⟨g, 0, none⟩)] w fun e w' => e = .returned (.int .i64 (n : Int)) ∧ ∃ m, w' = w.drewN m := by
  have h := left_walk g 0 n cap a ev w hc hn (Nat.zero_le _)
  rw [show (n : Int) - ((0 : Nat) : Int) = (n : Int) by omega] at h
  exact h
theorem tk1 (g p n cap b off : Nat) (zs : List Int) (w : World) (hc : Cur w g (.slice (some ⟨b, off, none⟩) n cap) p .nilIface) (hn : n ≤ 1048576) (hk : p + 1 ≤ n) (hcap : n ≤ cap) (hz : zs.length = n) (ha : Arr w (some ⟨b, off, none⟩) zs) (hb : b ≠ g) :
    Calls Tryd.prog 43 #[.pointer (some ⟨g, 0, none⟩), .int .i64 1] w fun e w' => e = .returned (.int .i64 (tnum ((zs.drop p).take 1))) ∧ Cur w' g (.slice (some ⟨b, off, none⟩) n cap) (p + 1) .nilIface ∧ w.grownBy w' (some g) :=
  take_ok g p n cap b off 1 zs w hc hn hk (by omega) hcap hz ha hb (by omega)
theorem ps2 (g p n cap b off : Nat) (w : World) (hc : Cur w g (.slice (some ⟨b, off, none⟩) n cap) p .nilIface) (hn : n ≤ 1048576) (hk : p + 2 ≤ n) (hcap : n ≤ cap) :
    Calls Tryd.prog 45 #[.pointer (some ⟨g, 0, none⟩), .int .i64 2] w fun e w' => e = .returned (.slice (some ⟨b, off + p, none⟩) 2 (cap - p)) ∧ Cur w' g (.slice (some ⟨b, off, none⟩) n cap) (p + 2) .nilIface ∧ w.grownBy w' (some g) :=
  pass_ok g p n cap b off 2 w hc (by omega) hk (by omega) hcap
theorem demand_if (g p : Nat) (bv : Value) (code : Int) (t : Bool) (w : World) (hc : Cur w g bv p .nilIface) :
    Calls Tryd.prog 41 #[.pointer (some ⟨g, 0, none⟩), .bool t, .int .i64 code] w fun e w' => e = .returned (.tuple #[]) ∧ Cur w' g bv p (if t then .nilIface else wErr code) ∧ w.grownBy w' (some g) := by
  cases t with
  | true =>
    refine (demand_yes g p bv code w hc).mono ?_
    rintro e w' ⟨rfl, rfl⟩
    exact ⟨rfl, hc, World.grownBy.refl _ _⟩
  | false => exact demand_no g p bv code w hc
set_option maxHeartbeats 1000000 in
theorem takeBytes_zero (g p n cap b off : Nat) (w : World) (hc : Cur w g (.slice (some ⟨b, off, none⟩) n cap) p .nilIface) (hn : n ≤ 1048576) (hp : p ≤ n) (hcap : n ≤ cap) :
    Calls Tryd.prog 47 #[.pointer (some ⟨g, 0, none⟩), .int .i64 0] w fun e w' => ∃ v, e = .returned v ∧ OwnB w' w.heap.size v [] ∧ Cur w' g (.slice (some ⟨b, off, none⟩) n cap) p .nilIface ∧ w.grownBy w' (some g) := by
  have CP := hide (pass_zero g p n cap b off w hc (by omega) hp hcap)
  obtain ⟨i, hi, hz0, hz1, hz2⟩ := info_parts Tryd.infoB
  have hs : (Tryd.prog.info? 5).map (·.size) = some 1 := by rw [hi]; simp [hz1]
  have HR := hide (fun w (d s : Option Addr) => run_copy_none (P := Tryd.prog) w 23 23 3 5 d s 0 0 0 (cap - p) Tryd.underlying23 hs (by simp))
  have hgl := hc.lt
  clear hi hz0 hz1 hz2 hs hc
  go_enter Tryd.func47, Tryd.ntmps47
  go_wp2_with fail
  refine CP.out.mono ?_
  rintro e w1 ⟨a', rfl, hc1, hg1⟩
  have rm : (Instr.makeSlice 23 (.int .i64 0) (.int .i64 0)).run Tryd.prog w1 = .ok (.slice (some ⟨w1.heap.size, 0, none⟩) 0 0) (w1.alloc (.cells (bval (List.replicate 0 0)).toArray 5)) := run_bytes 0 w1 (by omega)
  have hal := World.grownBy_alloc w1 (.cells (bval (List.replicate 0 0)).toArray 5) (some g)
  have hrow : RowB (w1.alloc (.cells (bval (List.replicate 0 0)).toArray 5)) w1.heap.size [] := heap_alloc_new _ _
  have HOW : Hid (OwnB _ w.heap.size (.slice (some ⟨w1.heap.size, 0, none⟩) 0 0) []) := hide (hrow.own (B := w.heap.size) hg1.size (by simp) (by simp))
  have HCW := hide (hc1.kept (World.grownBy_alloc w1 (.cells (bval (List.replicate 0 0)).toArray 5) none) (by simp))
  have HGW := hide (grown_trans hg1 hal)
  have hr := HR.out (w1.alloc (.cells (bval (List.replicate 0 0)).toArray 5)) (some ⟨w1.heap.size, 0, none⟩) a'
  clear hal hrow hc1 hg1 HR
  generalize w1.alloc (.cells (bval (List.replicate 0 0)).toArray 5) = W at *
  go_wp2_with fail
  go_ret
  exact ⟨_, rfl, HOW.out, HCW.out, HGW.out⟩
theorem takeBytes_any (g p n cap b off k : Nat) (zs : List Int) (w : World) (hc : Cur w g (.slice (some ⟨b, off, none⟩) n cap) p .nilIface) (hn : n ≤ 1048576) (hk : p + k ≤ n) (hcap : n ≤ cap) (hz : zs.length = n) (ha : Arr w (some ⟨b, off, none⟩) zs) (hb : b ≠ g) :
    Calls Tryd.prog 47 #[.pointer (some ⟨g, 0, none⟩), .int .i64 (k : Int)] w fun e w' => ∃ v, e = .returned v ∧ OwnB w' w.heap.size v ((zs.drop p).take k) ∧ Cur w' g (.slice (some ⟨b, off, none⟩) n cap) (p + k) .nilIface ∧ w.grownBy w' (some g) := by
  cases k with
  | zero => exact takeBytes_zero g p n cap b off w hc hn (by omega) hcap
  | succ j => exact takeBytes_ok g p n cap b off (j + 1) zs w hc hn hk (by omega) hcap hz ha hb
theorem only_cell {w : World} {g F : Nat} (i : Nat) (u : Value) : Only [g, F] w (w.setCell ⟨F, i, none⟩ u) := (Only.of_some (grown_cell w F i u)).mono (by simp)
theorem only_g {w w' : World} {g F : Nat} (h : w.grownBy w' (some g)) : Only [g, F] w w' := (Only.of_some h).mono (by simp)
theorem only_drew {S : List Nat} (w : World) : Only S w w.drew := ⟨rfl, rfl, rfl, Nat.le_refl _, fun _ _ _ => rfl⟩
theorem only_drewN {S : List Nat} (w : World) (m : Nat) : Only S w (w.drewN m) := ⟨rfl, rfl, rfl, Nat.le_refl _, fun _ _ _ => rfl⟩
set_option maxHeartbeats 2000000 in
theorem ansSegment_nil (x0 : Int) (x1 : Int) (x2 : Int) (x3 : Int) (x4 : Int) (x5 : Int) (x6 : Int) (x7 : Bool) (x8 : Int) (x9 : Bool) (a10 : Option Addr) (n10 c10 : Nat) (a11 : Option Addr) (n11 c11 : Nat) (w : World) :
    Calls Tryd.prog 49 #[.agg #[.int .i64 x0, .int .i64 x1, .int .i64 x2, .int .i64 x3, .int .i64 x4, .int .i64 x5, .int .i64 x6, .bool x7, .int .i64 x8, .bool x9, .slice a10 n10 c10, .slice a11 n11 c11], .nilIface] w fun e w' => e = .returned (.tuple #[.agg #[.int .i64 x0, .int .i64 x1, .int .i64 x2, .int .i64 x3, .int .i64 x4, .int .i64 x5, .int .i64 x6, .bool x7, .int .i64 x8, .bool x9, .slice a10 n10 c10, .slice a11 n11 c11], .int .i64 0]) ∧ Below w.heap.size w w' := by
  have HB := hide (two_allocs w (.cells #[.int .i64 x0, .int .i64 x1, .int .i64 x2, .int .i64 x3, .int .i64 x4, .int .i64 x5, .int .i64 x6, .bool x7, .int .i64 x8, .bool x9, .slice a10 n10 c10, .slice a11 n11 c11] 31) (.cells #[.int .i64 0, .int .i64 0, .int .i64 0, .int .i64 0, .int .i64 0, .int .i64 0, .int .i64 0, .bool false, .int .i64 0, .bool false, .slice none 0 0, .slice none 0 0] 31))
  generalize hW : (w.alloc (.cells #[.int .i64 x0, .int .i64 x1, .int .i64 x2, .int .i64 x3, .int .i64 x4, .int .i64 x5, .int .i64 x6, .bool x7, .int .i64 x8, .bool x9, .slice a10 n10 c10, .slice a11 n11 c11] 31)).alloc (.cells #[.int .i64 0, .int .i64 0, .int .i64 0, .int .i64 0, .int .i64 0, .int .i64 0, .int .i64 0, .bool false, .int .i64 0, .bool false, .slice none 0 0, .slice none 0 0] 31) = W at *
  have HW := hide hW
  clear hW
  go_enter Tryd.func49, Tryd.ntmps49
  go_wp2_with fail
  rw [HW.out]
  refine (codeOf_nil _).mono ?_
  rintro e w1 ⟨rfl, hb1⟩
  have HV1 : Hid (HoldV w1 w.heap.size #[.int .i64 x0, .int .i64 x1, .int .i64 x2, .int .i64 x3, .int .i64 x4, .int .i64 x5, .int .i64 x6, .bool x7, .int .i64 x8, .bool x9, .slice a10 n10 c10, .slice a11 n11 c11] 31) := hide (HoldV.next (show HoldV W w.heap.size _ _ from HB.out.2.1) hb1)
  have HZ1 : Hid (HoldV w1 (w.heap.size + 1) #[.int .i64 0, .int .i64 0, .int .i64 0, .int .i64 0, .int .i64 0, .int .i64 0, .int .i64 0, .bool false, .int .i64 0, .bool false, .slice none 0 0, .slice none 0 0] 31) := hide (HoldV.next (show HoldV W (w.heap.size + 1) _ _ from HB.out.2.2) hb1)
  have HBE := hide (HB.out.1.trans (hb1.mono HB.out.1.size))
  clear hb1 HB HW
  have k0 := HV1.out.cell 0 _ rfl
  have k1 := HV1.out.cell 1 _ rfl
  have k2 := HV1.out.cell 2 _ rfl
  have k3 := HV1.out.cell 3 _ rfl
  have k4 := HV1.out.cell 4 _ rfl
  have k5 := HV1.out.cell 5 _ rfl
  have k6 := HV1.out.cell 6 _ rfl
  have k7 := HV1.out.cell 7 _ rfl
  have k8 := HV1.out.cell 8 _ rfl
  have k9 := HV1.out.cell 9 _ rfl
  have k10 := HV1.out.cell 10 _ rfl
  have k11 := HV1.out.cell 11 _ rfl
  have d0 := HZ1.out.cell 0 _ rfl
  have d1 := HZ1.out.cell 1 _ rfl
  have d2 := HZ1.out.cell 2 _ rfl
  have d3 := HZ1.out.cell 3 _ rfl
  have d4 := HZ1.out.cell 4 _ rfl
  have d5 := HZ1.out.cell 5 _ rfl
  have d6 := HZ1.out.cell 6 _ rfl
  have d7 := HZ1.out.cell 7 _ rfl
  have d8 := HZ1.out.cell 8 _ rfl
  have d9 := HZ1.out.cell 9 _ rfl
  have d10 := HZ1.out.cell 10 _ rfl
  have d11 := HZ1.out.cell 11 _ rfl
  have fz := HZ1.out.frozen
  go_wp2_with fail
  exact bodyPost_ret (v := .tuple #[.agg #[.int .i64 x0, .int .i64 x1, .int .i64 x2, .int .i64 x3, .int .i64 x4, .int .i64 x5, .int .i64 x6, .bool x7, .int .i64 x8, .bool x9, .slice a10 n10 c10, .slice a11 n11 c11], .int .i64 0]) (by simp [results, Tryd.results49, go_sem, d0, d1, d2, d3, d4, d5, d6, d7, d8, d9, d10, d11]) rfl ⟨rfl, ((((((((((((HBE.out.setCell (p := ⟨w.heap.size + 1, 0, none⟩) (Nat.le_succ _) _).setCell (p := ⟨w.heap.size + 1, 1, none⟩) (Nat.le_succ _) _).setCell (p := ⟨w.heap.size + 1, 2, none⟩) (Nat.le_succ _) _).setCell (p := ⟨w.heap.size + 1, 3, none⟩) (Nat.le_succ _) _).setCell (p := ⟨w.heap.size + 1, 4, none⟩) (Nat.le_succ _) _).setCell (p := ⟨w.heap.size + 1, 5, none⟩) (Nat.le_succ _) _).setCell (p := ⟨w.heap.size + 1, 6, none⟩) (Nat.le_succ _) _).setCell (p := ⟨w.heap.size + 1, 7, none⟩) (Nat.le_succ _) _).setCell (p := ⟨w.heap.size + 1, 8, none⟩) (Nat.le_succ _) _).setCell (p := ⟨w.heap.size + 1, 9, none⟩) (Nat.le_succ _) _).setCell (p := ⟨w.heap.size + 1, 10, none⟩) (Nat.le_succ _) _).setCell (p := ⟨w.heap.size + 1, 11, none⟩) (Nat.le_succ _) _)⟩
set_option maxHeartbeats 2000000 in
theorem ansSegment_err (x0 : Int) (x1 : Int) (x2 : Int) (x3 : Int) (x4 : Int) (x5 : Int) (x6 : Int) (x7 : Bool) (x8 : Int) (x9 : Bool) (a10 : Option Addr) (n10 c10 : Nat) (a11 : Option Addr) (n11 c11 : Nat) (c : Int) (hc0 : c ≠ 0) (w : World) (he : ErrT w) :
    Calls Tryd.prog 49 #[.agg #[.int .i64 x0, .int .i64 x1, .int .i64 x2, .int .i64 x3, .int .i64 x4, .int .i64 x5, .int .i64 x6, .bool x7, .int .i64 x8, .bool x9, .slice a10 n10 c10, .slice a11 n11 c11], wErr c] w fun e w' => e = .returned (.tuple #[.agg #[.int .i64 0, .int .i64 0, .int .i64 0, .int .i64 0, .int .i64 0, .int .i64 0, .int .i64 0, .bool false, .int .i64 0, .bool false, .slice none 0 0, .slice none 0 0], .int .i64 c]) ∧ Below w.heap.size w w' := by
  have hcb : (c != 0) = true := by simpa using hc0
  clear hc0
  have HB := hide (two_allocs w (.cells #[.int .i64 x0, .int .i64 x1, .int .i64 x2, .int .i64 x3, .int .i64 x4, .int .i64 x5, .int .i64 x6, .bool x7, .int .i64 x8, .bool x9, .slice a10 n10 c10, .slice a11 n11 c11] 31) (.cells #[.int .i64 0, .int .i64 0, .int .i64 0, .int .i64 0, .int .i64 0, .int .i64 0, .int .i64 0, .bool false, .int .i64 0, .bool false, .slice none 0 0, .slice none 0 0] 31))
  generalize hW : (w.alloc (.cells #[.int .i64 x0, .int .i64 x1, .int .i64 x2, .int .i64 x3, .int .i64 x4, .int .i64 x5, .int .i64 x6, .bool x7, .int .i64 x8, .bool x9, .slice a10 n10 c10, .slice a11 n11 c11] 31)).alloc (.cells #[.int .i64 0, .int .i64 0, .int .i64 0, .int .i64 0, .int .i64 0, .int .i64 0, .int .i64 0, .bool false, .int .i64 0, .bool false, .slice none 0 0, .slice none 0 0] 31) = W at *
  have HW := hide hW
  clear hW
  go_enter Tryd.func49, Tryd.ntmps49
  go_wp2_with fail
  rw [HW.out]
  refine (codeOf_err c _ (he.below HB.out.1 (Nat.le_refl _))).mono ?_
  rintro e w1 ⟨rfl, hb1⟩
  have HV1 : Hid (HoldV w1 w.heap.size #[.int .i64 x0, .int .i64 x1, .int .i64 x2, .int .i64 x3, .int .i64 x4, .int .i64 x5, .int .i64 x6, .bool x7, .int .i64 x8, .bool x9, .slice a10 n10 c10, .slice a11 n11 c11] 31) := hide (HoldV.next (show HoldV W w.heap.size _ _ from HB.out.2.1) hb1)
  have HZ1 : Hid (HoldV w1 (w.heap.size + 1) #[.int .i64 0, .int .i64 0, .int .i64 0, .int .i64 0, .int .i64 0, .int .i64 0, .int .i64 0, .bool false, .int .i64 0, .bool false, .slice none 0 0, .slice none 0 0] 31) := hide (HoldV.next (show HoldV W (w.heap.size + 1) _ _ from HB.out.2.2) hb1)
  have HBE := hide (HB.out.1.trans (hb1.mono HB.out.1.size))
  clear hb1 HB HW
  have hal := (Below.refl w1.heap.size w1).alloc (Nat.le_refl _) (.cells #[.int .i64 0, .int .i64 0, .int .i64 0, .int .i64 0, .int .i64 0, .int .i64 0, .int .i64 0, .bool false, .int .i64 0, .bool false, .slice none 0 0, .slice none 0 0] 31)
  have HN2 : Hid (HoldV (w1.alloc (.cells #[.int .i64 0, .int .i64 0, .int .i64 0, .int .i64 0, .int .i64 0, .int .i64 0, .int .i64 0, .bool false, .int .i64 0, .bool false, .slice none 0 0, .slice none 0 0] 31)) w1.heap.size #[.int .i64 0, .int .i64 0, .int .i64 0, .int .i64 0, .int .i64 0, .int .i64 0, .int .i64 0, .bool false, .int .i64 0, .bool false, .slice none 0 0, .slice none 0 0] 31) := hide (heap_alloc_new _ _)
  have HZ2 := hide (HZ1.out.next hal)
  have HBE2 := hide (HBE.out.trans (hal.mono HBE.out.size))
  generalize hV : w1.alloc (.cells #[.int .i64 0, .int .i64 0, .int .i64 0, .int .i64 0, .int .i64 0, .int .i64 0, .int .i64 0, .bool false, .int .i64 0, .bool false, .slice none 0 0, .slice none 0 0] 31) = V at *
  clear hal
  have n0 := HN2.out.cell 0 _ rfl
  have n1 := HN2.out.cell 1 _ rfl
  have n2 := HN2.out.cell 2 _ rfl
  have n3 := HN2.out.cell 3 _ rfl
  have n4 := HN2.out.cell 4 _ rfl
  have n5 := HN2.out.cell 5 _ rfl
  have n6 := HN2.out.cell 6 _ rfl
  have n7 := HN2.out.cell 7 _ rfl
  have n8 := HN2.out.cell 8 _ rfl
  have n9 := HN2.out.cell 9 _ rfl
  have n10 := HN2.out.cell 10 _ rfl
  have n11 := HN2.out.cell 11 _ rfl
  have d0 := HZ2.out.cell 0 _ rfl
  have d1 := HZ2.out.cell 1 _ rfl
  have d2 := HZ2.out.cell 2 _ rfl
  have d3 := HZ2.out.cell 3 _ rfl
  have d4 := HZ2.out.cell 4 _ rfl
  have d5 := HZ2.out.cell 5 _ rfl
  have d6 := HZ2.out.cell 6 _ rfl
  have d7 := HZ2.out.cell 7 _ rfl
  have d8 := HZ2.out.cell 8 _ rfl
  have d9 := HZ2.out.cell 9 _ rfl
  have d10 := HZ2.out.cell 10 _ rfl
  have d11 := HZ2.out.cell 11 _ rfl
  have fz := HZ2.out.frozen
  go_wp2_with fail
  exact bodyPost_ret (v := .tuple #[.agg #[.int .i64 0, .int .i64 0, .int .i64 0, .int .i64 0, .int .i64 0, .int .i64 0, .int .i64 0, .bool false, .int .i64 0, .bool false, .slice none 0 0, .slice none 0 0], .int .i64 c]) (by simp [results, Tryd.results49, go_sem, d0, d1, d2, d3, d4, d5, d6, d7, d8, d9, d10, d11]) rfl ⟨rfl, ((((((((((((HBE2.out.setCell (p := ⟨w.heap.size + 1, 0, none⟩) (Nat.le_succ _) _).setCell (p := ⟨w.heap.size + 1, 1, none⟩) (Nat.le_succ _) _).setCell (p := ⟨w.heap.size + 1, 2, none⟩) (Nat.le_succ _) _).setCell (p := ⟨w.heap.size + 1, 3, none⟩) (Nat.le_succ _) _).setCell (p := ⟨w.heap.size + 1, 4, none⟩) (Nat.le_succ _) _).setCell (p := ⟨w.heap.size + 1, 5, none⟩) (Nat.le_succ _) _).setCell (p := ⟨w.heap.size + 1, 6, none⟩) (Nat.le_succ _) _).setCell (p := ⟨w.heap.size + 1, 7, none⟩) (Nat.le_succ _) _).setCell (p := ⟨w.heap.size + 1, 8, none⟩) (Nat.le_succ _) _).setCell (p := ⟨w.heap.size + 1, 9, none⟩) (Nat.le_succ _) _).setCell (p := ⟨w.heap.size + 1, 10, none⟩) (Nat.le_succ _) _).setCell (p := ⟨w.heap.size + 1, 11, none⟩) (Nat.le_succ _) _)⟩

theorem far12 {w : World} {R F j : Nat} (h : R ≠ F) {v : Option Value} {x0 x1 x2 x3 x4 x5 x6 x7 x8 x9 x10 x11 : Value} (k : w.cell? ⟨F, j, none⟩ = v) : ((((((((((((w.setCell ⟨R, 0, none⟩ x0).setCell ⟨R, 1, none⟩ x1).setCell ⟨R, 2, none⟩ x2).setCell ⟨R, 3, none⟩ x3).setCell ⟨R, 4, none⟩ x4).setCell ⟨R, 5, none⟩ x5).setCell ⟨R, 6, none⟩ x6).setCell ⟨R, 7, none⟩ x7).setCell ⟨R, 8, none⟩ x8).setCell ⟨R, 9, none⟩ x9).setCell ⟨R, 10, none⟩ x10).setCell ⟨R, 11, none⟩ x11).cell? ⟨F, j, none⟩ = v := (World.cell?_setCell_far _ _ _ _ h).trans ((World.cell?_setCell_far _ _ _ _ h).trans ((World.cell?_setCell_far _ _ _ _ h).trans ((World.cell?_setCell_far _ _ _ _ h).trans ((World.cell?_setCell_far _ _ _ _ h).trans ((World.cell?_setCell_far _ _ _ _ h).trans ((World.cell?_setCell_far _ _ _ _ h).trans ((World.cell?_setCell_far _ _ _ _ h).trans ((World.cell?_setCell_far _ _ _ _ h).trans ((World.cell?_setCell_far _ _ _ _ h).trans ((World.cell?_setCell_far _ _ _ _ h).trans ((World.cell?_setCell_far _ _ _ _ h).trans (k))))))))))))
theorem and_63_i64 (x : Int) (h0 : 0 ≤ x) (h1 : x ≤ 255) : bits .and .i64 x 63 = x % 64 :=
  and_mask .i64 6 (by decide) (fun n h0 h1 => wrap_i64' n h0 (by omega)) x
theorem DS1.opts {w W W' : World} {zr vs vs' : Array Value} {T U F G p : Nat} {bv ev : Value} (h : DS1 w W zr T bv p ev F vs U) (k : Only [G, F] W W') (hG : w.heap.size + 1 < G) (hv : HoldV W' F vs' U) : DS1 w W' zr T bv p ev F vs' U := by
  obtain ⟨⟨h1, h2, h3⟩, h4, h5⟩ := h
  refine ⟨⟨h1.trans (k.below (fun x hx => ?_) h1.size), (k.block _ h2.lt (fun hx => ?_)).trans h2, (k.block _ h3.lt (fun hx => ?_)).trans h3⟩, hv, h5⟩
  all_goals simp only [List.mem_cons, List.not_mem_nil, or_false] at hx; omega
theorem pass_anyk (g p n cap b off k : Nat) (zs : List Int) (w : World) (hc : Cur w g (.slice (some ⟨b, off, none⟩) n cap) p .nilIface) (hn : n ≤ 1048576) (hk : p + k ≤ n) (hcap : n ≤ cap) (ha : Arr w (some ⟨b, off, none⟩) zs) (hb : b ≠ g) :
    Calls Tryd.prog 45 #[.pointer (some ⟨g, 0, none⟩), .int .i64 (k : Int)] w fun e w' => ∃ a', e = .returned (.slice a' k (cap - p)) ∧ (0 < k → a' = some ⟨b, off + p, none⟩) ∧ Arr w' a' ((zs.drop p).take k) ∧ Cur w' g (.slice (some ⟨b, off, none⟩) n cap) (p + k) .nilIface ∧ w.grownBy w' (some g) := by
  by_cases h0 : 0 < k
  · refine (pass_ok g p n cap b off k w hc (by omega) hk (by omega) hcap).mono ?_
    rintro e w' ⟨rfl, hc', hg'⟩
    exact ⟨_, rfl, fun _ => rfl, ((ha.aside hg' hb).drop p).take k, hc', hg'⟩
  · obtain rfl : k = 0 := by omega
    refine (pass_zero g p n cap b off w hc (by omega) (by omega) hcap).mono ?_
    rintro e w' ⟨a', rfl, hc', hg'⟩
    exact ⟨a', rfl, fun h => absurd h (by omega), by rw [List.take_zero]; exact ⟨by simp, fun j hj => by simp at hj⟩, hc', hg'⟩
end Go.Proofs.YtcnfnimgpiaamaaDoor
