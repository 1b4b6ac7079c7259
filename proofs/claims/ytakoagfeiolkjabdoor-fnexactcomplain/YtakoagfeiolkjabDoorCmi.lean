/-
Contracts of functions of this seat.
-/
import Derived.Test.YtakoagfeiolkjabDoorRows
import Derived.WalkKit
import Derived.ProofKit
import Derived.OpenShut
import Derived.Test.YtakoagfeiolkjabDoorIef
namespace Go.Proofs.YtakoagfeiolkjabDoor
open Go.ChangeShapes Go.WideShapes Go.ChangeAt Go.RowKit
set_option linter.unusedVariables false
set_option maxRecDepth 100000
theorem own_cap {w : World} {B n cap : Nat} {a : Option Addr} {zs : List Int} (h : OwnB w B (.slice a n cap) zs) : n ≤ cap := by
  rcases h.1.2 with ⟨e, _⟩ | ⟨g, c, cs, e, _, _, hle, _⟩
  · cases e; omega
  · cases e; omega
/-- Two boxes laid at the world's end, and kept. -/
def TwoV (w W : World) (pv zr : Array Value) (T : Nat) : Prop := Below w.heap.size w W ∧ HoldV W w.heap.size pv T ∧ HoldV W (w.heap.size + 1) zr T
theorem TwoV.start (w : World) (pv zr : Array Value) (T : Nat) : TwoV w ((w.alloc (.cells pv T)).alloc (.cells zr T)) pv zr T := two_allocs w _ _
theorem TwoV.next {w W W' : World} {pv zr : Array Value} {T : Nat} (h : TwoV w W pv zr T) (hb : Below W.heap.size W W') : TwoV w W' pv zr T :=
  ⟨h.1.trans (hb.mono h.1.size), h.2.1.next hb, h.2.2.next hb⟩
set_option maxHeartbeats 8000000 in
theorem implCom_may (x0 x1 : Int) (x2 x3 : Bool) (x4 x5 x6 x7 x8 : Int) (a0 : Option Addr) (n0 c0 : Nat) (a1 : Option Addr) (n1 c1 : Nat) (fr kd cd rs : Int) (w : World) (cM : ∀ W, Below w.heap.size w W → Calls Tryd.prog 72 #[.agg #[.int .i64 x0, .int .i64 x1, .bool x2, .bool x3, .int .i64 x4, .int .i64 x5, .int .i64 x6, .int .i64 x7, .int .i64 x8, .slice a0 n0 c0, .slice a1 n1 c1]] W fun e w' => e = .returned (.bool false) ∧ Below W.heap.size W w') :
    Calls Tryd.prog 34 #[.agg #[.int .i64 x0, .int .i64 x1, .bool x2, .bool x3, .int .i64 x4, .int .i64 x5, .int .i64 x6, .int .i64 x7, .int .i64 x8, .slice a0 n0 c0, .slice a1 n1 c1], .int .i64 fr, .int .i64 kd, .int .i64 cd, .int .i64 rs] w fun e w' => e = .returned (.tuple #[.agg #[.int .i64 0, .int .i64 0, .bool false, .bool false, .int .i64 0, .int .i64 0, .int .i64 0, .int .i64 0, .int .i64 0, .slice none 0 0, .slice none 0 0], .int .i64 1]) ∧ Below w.heap.size w w' := by
  have HT0 := hide (TwoV.start w #[.int .i64 x0, .int .i64 x1, .bool x2, .bool x3, .int .i64 x4, .int .i64 x5, .int .i64 x6, .int .i64 x7, .int .i64 x8, .slice a0 n0 c0, .slice a1 n1 c1] #[.int .i64 0, .int .i64 0, .bool false, .bool false, .int .i64 0, .int .i64 0, .int .i64 0, .int .i64 0, .int .i64 0, .slice none 0 0, .slice none 0 0] 47)
  have CM := hide cM
  clear cM
  generalize hW : (w.alloc (.cells #[.int .i64 x0, .int .i64 x1, .bool x2, .bool x3, .int .i64 x4, .int .i64 x5, .int .i64 x6, .int .i64 x7, .int .i64 x8, .slice a0 n0 c0, .slice a1 n1 c1] 47)).alloc (.cells #[.int .i64 0, .int .i64 0, .bool false, .bool false, .int .i64 0, .int .i64 0, .int .i64 0, .int .i64 0, .int .i64 0, .slice none 0 0, .slice none 0 0] 47) = W0 at *
  have HW := hide hW
  clear hW
  have k0 := HT0.out.2.1.cell 0 _ rfl
  have k1 := HT0.out.2.1.cell 1 _ rfl
  have k2 := HT0.out.2.1.cell 2 _ rfl
  have k3 := HT0.out.2.1.cell 3 _ rfl
  have k4 := HT0.out.2.1.cell 4 _ rfl
  have k5 := HT0.out.2.1.cell 5 _ rfl
  have k6 := HT0.out.2.1.cell 6 _ rfl
  have k7 := HT0.out.2.1.cell 7 _ rfl
  have k8 := HT0.out.2.1.cell 8 _ rfl
  have k9 := HT0.out.2.1.cell 9 _ rfl
  have k10 := HT0.out.2.1.cell 10 _ rfl
  go_enter Tryd.func34, Tryd.ntmps34
  go_wp2_with fail
  rw [HW.out]
  refine (CM.out _ HT0.out.1).mono ?_
  rintro e W1 ⟨rfl, hb⟩
  have HT1 := hide (HT0.out.next hb)
  clear CM hb HT0 HW
  clear k0 k1 k2 k3 k4 k5 k6 k7 k8 k9 k10
  have d0 := HT1.out.2.2.cell 0 _ rfl
  have d1 := HT1.out.2.2.cell 1 _ rfl
  have d2 := HT1.out.2.2.cell 2 _ rfl
  have d3 := HT1.out.2.2.cell 3 _ rfl
  have d4 := HT1.out.2.2.cell 4 _ rfl
  have d5 := HT1.out.2.2.cell 5 _ rfl
  have d6 := HT1.out.2.2.cell 6 _ rfl
  have d7 := HT1.out.2.2.cell 7 _ rfl
  have d8 := HT1.out.2.2.cell 8 _ rfl
  have d9 := HT1.out.2.2.cell 9 _ rfl
  have d10 := HT1.out.2.2.cell 10 _ rfl
  have fz := HT1.out.2.2.frozen
  go_wp2_with fail
  exact bodyPost_ret (v := .tuple #[.agg #[.int .i64 0, .int .i64 0, .bool false, .bool false, .int .i64 0, .int .i64 0, .int .i64 0, .int .i64 0, .int .i64 0, .slice none 0 0, .slice none 0 0], .int .i64 1]) (by simp [results, Tryd.results34, go_sem, d0, d1, d2, d3, d4, d5, d6, d7, d8, d9, d10]) rfl ⟨rfl, (((((((((((HT1.out.1.setCell (p := ⟨w.heap.size + 1, 0, none⟩) (Nat.le_succ _) _).setCell (p := ⟨w.heap.size + 1, 1, none⟩) (Nat.le_succ _) _).setCell (p := ⟨w.heap.size + 1, 2, none⟩) (Nat.le_succ _) _).setCell (p := ⟨w.heap.size + 1, 3, none⟩) (Nat.le_succ _) _).setCell (p := ⟨w.heap.size + 1, 4, none⟩) (Nat.le_succ _) _).setCell (p := ⟨w.heap.size + 1, 5, none⟩) (Nat.le_succ _) _).setCell (p := ⟨w.heap.size + 1, 6, none⟩) (Nat.le_succ _) _).setCell (p := ⟨w.heap.size + 1, 7, none⟩) (Nat.le_succ _) _).setCell (p := ⟨w.heap.size + 1, 8, none⟩) (Nat.le_succ _) _).setCell (p := ⟨w.heap.size + 1, 9, none⟩) (Nat.le_succ _) _).setCell (p := ⟨w.heap.size + 1, 10, none⟩) (Nat.le_succ _) _)⟩
set_option maxHeartbeats 8000000 in
theorem implCom_from (x0 x1 : Int) (x2 x3 : Bool) (x4 x5 x6 x7 x8 : Int) (a0 : Option Addr) (n0 c0 : Nat) (a1 : Option Addr) (n1 c1 : Nat) (fr kd cd rs : Int) (w : World) (cM : ∀ W, Below w.heap.size w W → Calls Tryd.prog 72 #[.agg #[.int .i64 x0, .int .i64 x1, .bool x2, .bool x3, .int .i64 x4, .int .i64 x5, .int .i64 x6, .int .i64 x7, .int .i64 x8, .slice a0 n0 c0, .slice a1 n1 c1]] W fun e w' => e = .returned (.bool true) ∧ Below W.heap.size W w') (hA : adrB fr = false) :
    Calls Tryd.prog 34 #[.agg #[.int .i64 x0, .int .i64 x1, .bool x2, .bool x3, .int .i64 x4, .int .i64 x5, .int .i64 x6, .int .i64 x7, .int .i64 x8, .slice a0 n0 c0, .slice a1 n1 c1], .int .i64 fr, .int .i64 kd, .int .i64 cd, .int .i64 rs] w fun e w' => e = .returned (.tuple #[.agg #[.int .i64 0, .int .i64 0, .bool false, .bool false, .int .i64 0, .int .i64 0, .int .i64 0, .int .i64 0, .int .i64 0, .slice none 0 0, .slice none 0 0], .int .i64 1]) ∧ Below w.heap.size w w' := by
  have HT0 := hide (TwoV.start w #[.int .i64 x0, .int .i64 x1, .bool x2, .bool x3, .int .i64 x4, .int .i64 x5, .int .i64 x6, .int .i64 x7, .int .i64 x8, .slice a0 n0 c0, .slice a1 n1 c1] #[.int .i64 0, .int .i64 0, .bool false, .bool false, .int .i64 0, .int .i64 0, .int .i64 0, .int .i64 0, .int .i64 0, .slice none 0 0, .slice none 0 0] 47)
  have CM := hide cM
  clear cM
  generalize hW : (w.alloc (.cells #[.int .i64 x0, .int .i64 x1, .bool x2, .bool x3, .int .i64 x4, .int .i64 x5, .int .i64 x6, .int .i64 x7, .int .i64 x8, .slice a0 n0 c0, .slice a1 n1 c1] 47)).alloc (.cells #[.int .i64 0, .int .i64 0, .bool false, .bool false, .int .i64 0, .int .i64 0, .int .i64 0, .int .i64 0, .int .i64 0, .slice none 0 0, .slice none 0 0] 47) = W0 at *
  have HW := hide hW
  clear hW
  have k0 := HT0.out.2.1.cell 0 _ rfl
  have k1 := HT0.out.2.1.cell 1 _ rfl
  have k2 := HT0.out.2.1.cell 2 _ rfl
  have k3 := HT0.out.2.1.cell 3 _ rfl
  have k4 := HT0.out.2.1.cell 4 _ rfl
  have k5 := HT0.out.2.1.cell 5 _ rfl
  have k6 := HT0.out.2.1.cell 6 _ rfl
  have k7 := HT0.out.2.1.cell 7 _ rfl
  have k8 := HT0.out.2.1.cell 8 _ rfl
  have k9 := HT0.out.2.1.cell 9 _ rfl
  have k10 := HT0.out.2.1.cell 10 _ rfl
  go_enter Tryd.func34, Tryd.ntmps34
  go_wp2_with fail
  rw [HW.out]
  refine (CM.out _ HT0.out.1).mono ?_
  rintro e W1 ⟨rfl, hb⟩
  have HT1 := hide (HT0.out.next hb)
  clear CM hb HT0 HW
  clear k0 k1 k2 k3 k4 k5 k6 k7 k8 k9 k10
  have k0 := HT1.out.2.1.cell 0 _ rfl
  have k1 := HT1.out.2.1.cell 1 _ rfl
  have k2 := HT1.out.2.1.cell 2 _ rfl
  have k3 := HT1.out.2.1.cell 3 _ rfl
  have k4 := HT1.out.2.1.cell 4 _ rfl
  have k5 := HT1.out.2.1.cell 5 _ rfl
  have k6 := HT1.out.2.1.cell 6 _ rfl
  have k7 := HT1.out.2.1.cell 7 _ rfl
  have k8 := HT1.out.2.1.cell 8 _ rfl
  have k9 := HT1.out.2.1.cell 9 _ rfl
  have k10 := HT1.out.2.1.cell 10 _ rfl
  have d0 := HT1.out.2.2.cell 0 _ rfl
  have d1 := HT1.out.2.2.cell 1 _ rfl
  have d2 := HT1.out.2.2.cell 2 _ rfl
  have d3 := HT1.out.2.2.cell 3 _ rfl
  have d4 := HT1.out.2.2.cell 4 _ rfl
  have d5 := HT1.out.2.2.cell 5 _ rfl
  have d6 := HT1.out.2.2.cell 6 _ rfl
  have d7 := HT1.out.2.2.cell 7 _ rfl
  have d8 := HT1.out.2.2.cell 8 _ rfl
  have d9 := HT1.out.2.2.cell 9 _ rfl
  have d10 := HT1.out.2.2.cell 10 _ rfl
  have fz := HT1.out.2.2.frozen
  go_wp2_with (go_at_call 50; refine (isAddr_walk _ _).mono ?_; rintro e w' ⟨rfl, rfl⟩)
  exact bodyPost_ret (v := .tuple #[.agg #[.int .i64 0, .int .i64 0, .bool false, .bool false, .int .i64 0, .int .i64 0, .int .i64 0, .int .i64 0, .int .i64 0, .slice none 0 0, .slice none 0 0], .int .i64 1]) (by simp [results, Tryd.results34, go_sem, d0, d1, d2, d3, d4, d5, d6, d7, d8, d9, d10]) rfl ⟨rfl, (((((((((((HT1.out.1.setCell (p := ⟨w.heap.size + 1, 0, none⟩) (Nat.le_succ _) _).setCell (p := ⟨w.heap.size + 1, 1, none⟩) (Nat.le_succ _) _).setCell (p := ⟨w.heap.size + 1, 2, none⟩) (Nat.le_succ _) _).setCell (p := ⟨w.heap.size + 1, 3, none⟩) (Nat.le_succ _) _).setCell (p := ⟨w.heap.size + 1, 4, none⟩) (Nat.le_succ _) _).setCell (p := ⟨w.heap.size + 1, 5, none⟩) (Nat.le_succ _) _).setCell (p := ⟨w.heap.size + 1, 6, none⟩) (Nat.le_succ _) _).setCell (p := ⟨w.heap.size + 1, 7, none⟩) (Nat.le_succ _) _).setCell (p := ⟨w.heap.size + 1, 8, none⟩) (Nat.le_succ _) _).setCell (p := ⟨w.heap.size + 1, 9, none⟩) (Nat.le_succ _) _).setCell (p := ⟨w.heap.size + 1, 10, none⟩) (Nat.le_succ _) _)⟩
set_option maxHeartbeats 8000000 in
theorem implCom_kind (x0 x1 : Int) (x2 x3 : Bool) (x4 x5 x6 x7 x8 : Int) (a0 : Option Addr) (n0 c0 : Nat) (a1 : Option Addr) (n1 c1 : Nat) (fr kd cd rs : Int) (w : World) (cM : ∀ W, Below w.heap.size w W → Calls Tryd.prog 72 #[.agg #[.int .i64 x0, .int .i64 x1, .bool x2, .bool x3, .int .i64 x4, .int .i64 x5, .int .i64 x6, .int .i64 x7, .int .i64 x8, .slice a0 n0 c0, .slice a1 n1 c1]] W fun e w' => e = .returned (.bool true) ∧ Below W.heap.size W w') (hA : adrB fr = true) (LQ : List Int) (hq : LQ.length ≤ 65000)
    (cQ : ∀ W, Below w.heap.size w W → Calls Tryd.prog 73 #[.agg #[.int .i64 x0, .int .i64 x1, .bool x2, .bool x3, .int .i64 x4, .int .i64 x5, .int .i64 x6, .int .i64 x7, .int .i64 x8, .slice a0 n0 c0, .slice a1 n1 c1]] W fun e w' => ∃ v : Value, e = .returned v ∧ OwnB w' W.heap.size v LQ ∧ Below W.heap.size W w') (hk : (aboutN kd != 2) = true) :
    Calls Tryd.prog 34 #[.agg #[.int .i64 x0, .int .i64 x1, .bool x2, .bool x3, .int .i64 x4, .int .i64 x5, .int .i64 x6, .int .i64 x7, .int .i64 x8, .slice a0 n0 c0, .slice a1 n1 c1], .int .i64 fr, .int .i64 kd, .int .i64 cd, .int .i64 rs] w fun e w' => e = .returned (.tuple #[.agg #[.int .i64 0, .int .i64 0, .bool false, .bool false, .int .i64 0, .int .i64 0, .int .i64 0, .int .i64 0, .int .i64 0, .slice none 0 0, .slice none 0 0], .int .i64 1]) ∧ Below w.heap.size w w' := by
  have HT0 := hide (TwoV.start w #[.int .i64 x0, .int .i64 x1, .bool x2, .bool x3, .int .i64 x4, .int .i64 x5, .int .i64 x6, .int .i64 x7, .int .i64 x8, .slice a0 n0 c0, .slice a1 n1 c1] #[.int .i64 0, .int .i64 0, .bool false, .bool false, .int .i64 0, .int .i64 0, .int .i64 0, .int .i64 0, .int .i64 0, .slice none 0 0, .slice none 0 0] 47)
  have CM := hide cM
  clear cM
  have CQ := hide cQ
  clear cQ
  generalize hW : (w.alloc (.cells #[.int .i64 x0, .int .i64 x1, .bool x2, .bool x3, .int .i64 x4, .int .i64 x5, .int .i64 x6, .int .i64 x7, .int .i64 x8, .slice a0 n0 c0, .slice a1 n1 c1] 47)).alloc (.cells #[.int .i64 0, .int .i64 0, .bool false, .bool false, .int .i64 0, .int .i64 0, .int .i64 0, .int .i64 0, .int .i64 0, .slice none 0 0, .slice none 0 0] 47) = W0 at *
  have HW := hide hW
  clear hW
  have k0 := HT0.out.2.1.cell 0 _ rfl
  have k1 := HT0.out.2.1.cell 1 _ rfl
  have k2 := HT0.out.2.1.cell 2 _ rfl
  have k3 := HT0.out.2.1.cell 3 _ rfl
  have k4 := HT0.out.2.1.cell 4 _ rfl
  have k5 := HT0.out.2.1.cell 5 _ rfl
  have k6 := HT0.out.2.1.cell 6 _ rfl
  have k7 := HT0.out.2.1.cell 7 _ rfl
  have k8 := HT0.out.2.1.cell 8 _ rfl
  have k9 := HT0.out.2.1.cell 9 _ rfl
  have k10 := HT0.out.2.1.cell 10 _ rfl
  go_enter Tryd.func34, Tryd.ntmps34
  go_wp2_with fail
  rw [HW.out]
  refine (CM.out _ HT0.out.1).mono ?_
  rintro e W1 ⟨rfl, hb⟩
  have HT1 := hide (HT0.out.next hb)
  clear CM hb HT0 HW
  clear k0 k1 k2 k3 k4 k5 k6 k7 k8 k9 k10
  have k0 := HT1.out.2.1.cell 0 _ rfl
  have k1 := HT1.out.2.1.cell 1 _ rfl
  have k2 := HT1.out.2.1.cell 2 _ rfl
  have k3 := HT1.out.2.1.cell 3 _ rfl
  have k4 := HT1.out.2.1.cell 4 _ rfl
  have k5 := HT1.out.2.1.cell 5 _ rfl
  have k6 := HT1.out.2.1.cell 6 _ rfl
  have k7 := HT1.out.2.1.cell 7 _ rfl
  have k8 := HT1.out.2.1.cell 8 _ rfl
  have k9 := HT1.out.2.1.cell 9 _ rfl
  have k10 := HT1.out.2.1.cell 10 _ rfl
  go_wp2_with (go_at_call 50; refine (isAddr_walk _ _).mono ?_; rintro e w' ⟨rfl, rfl⟩)
  refine (CQ.out _ HT1.out.1).mono ?_
  rintro e W2 ⟨vq, rfl, hO, hb⟩
  have HT2 := hide (HT1.out.next hb)
  obtain ⟨aq, cq, eq, hAq⟩ := own_slice hO
  subst eq
  have hcq := own_cap hO
  have HAQ := hide hAq
  clear CQ hb HT1 hO hAq
  clear k0 k1 k2 k3 k4 k5 k6 k7 k8 k9 k10
  generalize hnq : LQ.length = nq at *
  have HNQ := hide hnq
  clear hnq
  have hal := (Below.refl W2.heap.size W2).alloc (Nat.le_refl _) (.cells #[.int .i64 kd, .int .i64 cd, .int .i64 rs, .slice aq nq cq] 28)
  have HT3 := hide (HT2.out.next hal)
  have HM3 : Hid (HoldV (W2.alloc (.cells #[.int .i64 kd, .int .i64 cd, .int .i64 rs, .slice aq nq cq] 28)) W2.heap.size #[.int .i64 kd, .int .i64 cd, .int .i64 rs, .slice aq nq cq] 28) := hide (heap_alloc_new _ _)
  have HA3 := hide (HAQ.out.below hal (Nat.le_refl _))
  clear hal HT2 HAQ
  go_wp2_with fail
  generalize W2.alloc (.cells #[.int .i64 kd, .int .i64 cd, .int .i64 rs, .slice aq nq cq] 28) = V at *
  generalize W2.heap.size = m at *
  refine (messageOf_walk kd cd rs aq nq cq V).mono ?_
  rintro e V1 ⟨rfl, hb⟩
  have HT4 := hide (HT3.out.next hb)
  have HM4 := hide (HM3.out.next hb)
  have HA4 := hide (HA3.out.below hb (Nat.le_refl _))
  clear hb HT3 HM3 HA3
  go_wp2_with fail
  refine (aboutWhat_walk kd cd rs (.slice aq nq cq) V1).mono ?_
  rintro e w' ⟨rfl, hw⟩
  rw [hw]
  clear hw
  have d0 := HT4.out.2.2.cell 0 _ rfl
  have d1 := HT4.out.2.2.cell 1 _ rfl
  have d2 := HT4.out.2.2.cell 2 _ rfl
  have d3 := HT4.out.2.2.cell 3 _ rfl
  have d4 := HT4.out.2.2.cell 4 _ rfl
  have d5 := HT4.out.2.2.cell 5 _ rfl
  have d6 := HT4.out.2.2.cell 6 _ rfl
  have d7 := HT4.out.2.2.cell 7 _ rfl
  have d8 := HT4.out.2.2.cell 8 _ rfl
  have d9 := HT4.out.2.2.cell 9 _ rfl
  have d10 := HT4.out.2.2.cell 10 _ rfl
  have fz := HT4.out.2.2.frozen
  go_wp2_with fail
  exact bodyPost_ret (v := .tuple #[.agg #[.int .i64 0, .int .i64 0, .bool false, .bool false, .int .i64 0, .int .i64 0, .int .i64 0, .int .i64 0, .int .i64 0, .slice none 0 0, .slice none 0 0], .int .i64 1]) (by simp [results, Tryd.results34, go_sem, d0, d1, d2, d3, d4, d5, d6, d7, d8, d9, d10]) rfl ⟨rfl, (((((((((((HT4.out.1.setCell (p := ⟨w.heap.size + 1, 0, none⟩) (Nat.le_succ _) _).setCell (p := ⟨w.heap.size + 1, 1, none⟩) (Nat.le_succ _) _).setCell (p := ⟨w.heap.size + 1, 2, none⟩) (Nat.le_succ _) _).setCell (p := ⟨w.heap.size + 1, 3, none⟩) (Nat.le_succ _) _).setCell (p := ⟨w.heap.size + 1, 4, none⟩) (Nat.le_succ _) _).setCell (p := ⟨w.heap.size + 1, 5, none⟩) (Nat.le_succ _) _).setCell (p := ⟨w.heap.size + 1, 6, none⟩) (Nat.le_succ _) _).setCell (p := ⟨w.heap.size + 1, 7, none⟩) (Nat.le_succ _) _).setCell (p := ⟨w.heap.size + 1, 8, none⟩) (Nat.le_succ _) _).setCell (p := ⟨w.heap.size + 1, 9, none⟩) (Nat.le_succ _) _).setCell (p := ⟨w.heap.size + 1, 10, none⟩) (Nat.le_succ _) _)⟩
set_option maxHeartbeats 8000000 in
theorem implCom_enc (x0 x1 : Int) (x2 x3 : Bool) (x4 x5 x6 x7 x8 : Int) (a0 : Option Addr) (n0 c0 : Nat) (a1 : Option Addr) (n1 c1 : Nat) (fr kd cd rs : Int) (w : World) (cM : ∀ W, Below w.heap.size w W → Calls Tryd.prog 72 #[.agg #[.int .i64 x0, .int .i64 x1, .bool x2, .bool x3, .int .i64 x4, .int .i64 x5, .int .i64 x6, .int .i64 x7, .int .i64 x8, .slice a0 n0 c0, .slice a1 n1 c1]] W fun e w' => e = .returned (.bool true) ∧ Below W.heap.size W w') (hA : adrB fr = true) (LQ : List Int) (hq : LQ.length ≤ 65000)
    (cQ : ∀ W, Below w.heap.size w W → Calls Tryd.prog 73 #[.agg #[.int .i64 x0, .int .i64 x1, .bool x2, .bool x3, .int .i64 x4, .int .i64 x5, .int .i64 x6, .int .i64 x7, .int .i64 x8, .slice a0 n0 c0, .slice a1 n1 c1]] W fun e w' => ∃ v : Value, e = .returned v ∧ OwnB w' W.heap.size v LQ ∧ Below W.heap.size W w') (hk : (aboutN kd != 2) = false) (LE : List Int) (CE : Int) (cE : EncIcmpP 11 ErrT kd cd rs LQ LE CE) (he : ErrT w) (hC : (CE != 0) = true) :
    Calls Tryd.prog 34 #[.agg #[.int .i64 x0, .int .i64 x1, .bool x2, .bool x3, .int .i64 x4, .int .i64 x5, .int .i64 x6, .int .i64 x7, .int .i64 x8, .slice a0 n0 c0, .slice a1 n1 c1], .int .i64 fr, .int .i64 kd, .int .i64 cd, .int .i64 rs] w fun e w' => e = .returned (.tuple #[.agg #[.int .i64 0, .int .i64 0, .bool false, .bool false, .int .i64 0, .int .i64 0, .int .i64 0, .int .i64 0, .int .i64 0, .slice none 0 0, .slice none 0 0], .int .i64 1]) ∧ Below w.heap.size w w' := by
  have HT0 := hide (TwoV.start w #[.int .i64 x0, .int .i64 x1, .bool x2, .bool x3, .int .i64 x4, .int .i64 x5, .int .i64 x6, .int .i64 x7, .int .i64 x8, .slice a0 n0 c0, .slice a1 n1 c1] #[.int .i64 0, .int .i64 0, .bool false, .bool false, .int .i64 0, .int .i64 0, .int .i64 0, .int .i64 0, .int .i64 0, .slice none 0 0, .slice none 0 0] 47)
  have CM := hide cM
  clear cM
  have CQ := hide cQ
  clear cQ
  have CE' := hide cE
  have HE := hide he
  clear cE he
  generalize hW : (w.alloc (.cells #[.int .i64 x0, .int .i64 x1, .bool x2, .bool x3, .int .i64 x4, .int .i64 x5, .int .i64 x6, .int .i64 x7, .int .i64 x8, .slice a0 n0 c0, .slice a1 n1 c1] 47)).alloc (.cells #[.int .i64 0, .int .i64 0, .bool false, .bool false, .int .i64 0, .int .i64 0, .int .i64 0, .int .i64 0, .int .i64 0, .slice none 0 0, .slice none 0 0] 47) = W0 at *
  have HW := hide hW
  clear hW
  have k0 := HT0.out.2.1.cell 0 _ rfl
  have k1 := HT0.out.2.1.cell 1 _ rfl
  have k2 := HT0.out.2.1.cell 2 _ rfl
  have k3 := HT0.out.2.1.cell 3 _ rfl
  have k4 := HT0.out.2.1.cell 4 _ rfl
  have k5 := HT0.out.2.1.cell 5 _ rfl
  have k6 := HT0.out.2.1.cell 6 _ rfl
  have k7 := HT0.out.2.1.cell 7 _ rfl
  have k8 := HT0.out.2.1.cell 8 _ rfl
  have k9 := HT0.out.2.1.cell 9 _ rfl
  have k10 := HT0.out.2.1.cell 10 _ rfl
  go_enter Tryd.func34, Tryd.ntmps34
  go_wp2_with fail
  rw [HW.out]
  refine (CM.out _ HT0.out.1).mono ?_
  rintro e W1 ⟨rfl, hb⟩
  have HT1 := hide (HT0.out.next hb)
  clear CM hb HT0 HW
  clear k0 k1 k2 k3 k4 k5 k6 k7 k8 k9 k10
  have k0 := HT1.out.2.1.cell 0 _ rfl
  have k1 := HT1.out.2.1.cell 1 _ rfl
  have k2 := HT1.out.2.1.cell 2 _ rfl
  have k3 := HT1.out.2.1.cell 3 _ rfl
  have k4 := HT1.out.2.1.cell 4 _ rfl
  have k5 := HT1.out.2.1.cell 5 _ rfl
  have k6 := HT1.out.2.1.cell 6 _ rfl
  have k7 := HT1.out.2.1.cell 7 _ rfl
  have k8 := HT1.out.2.1.cell 8 _ rfl
  have k9 := HT1.out.2.1.cell 9 _ rfl
  have k10 := HT1.out.2.1.cell 10 _ rfl
  go_wp2_with (go_at_call 50; refine (isAddr_walk _ _).mono ?_; rintro e w' ⟨rfl, rfl⟩)
  refine (CQ.out _ HT1.out.1).mono ?_
  rintro e W2 ⟨vq, rfl, hO, hb⟩
  have HT2 := hide (HT1.out.next hb)
  obtain ⟨aq, cq, eq, hAq⟩ := own_slice hO
  subst eq
  have hcq := own_cap hO
  have HAQ := hide hAq
  clear CQ hb HT1 hO hAq
  clear k0 k1 k2 k3 k4 k5 k6 k7 k8 k9 k10
  generalize hnq : LQ.length = nq at *
  have HNQ := hide hnq
  clear hnq
  have hal := (Below.refl W2.heap.size W2).alloc (Nat.le_refl _) (.cells #[.int .i64 kd, .int .i64 cd, .int .i64 rs, .slice aq nq cq] 28)
  have HT3 := hide (HT2.out.next hal)
  have HM3 : Hid (HoldV (W2.alloc (.cells #[.int .i64 kd, .int .i64 cd, .int .i64 rs, .slice aq nq cq] 28)) W2.heap.size #[.int .i64 kd, .int .i64 cd, .int .i64 rs, .slice aq nq cq] 28) := hide (heap_alloc_new _ _)
  have HA3 := hide (HAQ.out.below hal (Nat.le_refl _))
  clear hal HT2 HAQ
  go_wp2_with fail
  generalize W2.alloc (.cells #[.int .i64 kd, .int .i64 cd, .int .i64 rs, .slice aq nq cq] 28) = V at *
  generalize W2.heap.size = m at *
  refine (messageOf_walk kd cd rs aq nq cq V).mono ?_
  rintro e V1 ⟨rfl, hb⟩
  have HT4 := hide (HT3.out.next hb)
  have HM4 := hide (HM3.out.next hb)
  have HA4 := hide (HA3.out.below hb (Nat.le_refl _))
  clear hb HT3 HM3 HA3
  go_wp2_with fail
  refine (aboutWhat_walk kd cd rs (.slice aq nq cq) V1).mono ?_
  rintro e w' ⟨rfl, hw⟩
  rw [hw]
  clear hw
  have i0 := HM4.out.cell 0 _ rfl
  have i1 := HM4.out.cell 1 _ rfl
  have i2 := HM4.out.cell 2 _ rfl
  have i3 := HM4.out.cell 3 _ rfl
  go_wp2_with fail
  refine (CE'.out aq nq cq V1 HNQ.out HA4.out hcq (by omega) (HE.out.below HT4.out.1 (Nat.le_refl _))).mono ?_
  rintro e V2 ⟨ve, rfl, hO, hb⟩
  have HT5 := hide (HT4.out.next hb)
  have HO5 := hide (hO.mono (show w.heap.size + 1 + 1 ≤ V1.heap.size from HT4.out.2.2.lt))
  clear hb hO HT4 HM4 HA4 i0 i1 i2 i3
  have d0 := HT5.out.2.2.cell 0 _ rfl
  have d1 := HT5.out.2.2.cell 1 _ rfl
  have d2 := HT5.out.2.2.cell 2 _ rfl
  have d3 := HT5.out.2.2.cell 3 _ rfl
  have d4 := HT5.out.2.2.cell 4 _ rfl
  have d5 := HT5.out.2.2.cell 5 _ rfl
  have d6 := HT5.out.2.2.cell 6 _ rfl
  have d7 := HT5.out.2.2.cell 7 _ rfl
  have d8 := HT5.out.2.2.cell 8 _ rfl
  have d9 := HT5.out.2.2.cell 9 _ rfl
  have d10 := HT5.out.2.2.cell 10 _ rfl
  have fz := HT5.out.2.2.frozen
  go_wp2_with fail
  exact bodyPost_ret (v := .tuple #[.agg #[.int .i64 0, .int .i64 0, .bool false, .bool false, .int .i64 0, .int .i64 0, .int .i64 0, .int .i64 0, .int .i64 0, .slice none 0 0, .slice none 0 0], .int .i64 1]) (by simp [results, Tryd.results34, go_sem, d0, d1, d2, d3, d4, d5, d6, d7, d8, d9, d10]) rfl ⟨rfl, (((((((((((HT5.out.1.setCell (p := ⟨w.heap.size + 1, 0, none⟩) (Nat.le_succ _) _).setCell (p := ⟨w.heap.size + 1, 1, none⟩) (Nat.le_succ _) _).setCell (p := ⟨w.heap.size + 1, 2, none⟩) (Nat.le_succ _) _).setCell (p := ⟨w.heap.size + 1, 3, none⟩) (Nat.le_succ _) _).setCell (p := ⟨w.heap.size + 1, 4, none⟩) (Nat.le_succ _) _).setCell (p := ⟨w.heap.size + 1, 5, none⟩) (Nat.le_succ _) _).setCell (p := ⟨w.heap.size + 1, 6, none⟩) (Nat.le_succ _) _).setCell (p := ⟨w.heap.size + 1, 7, none⟩) (Nat.le_succ _) _).setCell (p := ⟨w.heap.size + 1, 8, none⟩) (Nat.le_succ _) _).setCell (p := ⟨w.heap.size + 1, 9, none⟩) (Nat.le_succ _) _).setCell (p := ⟨w.heap.size + 1, 10, none⟩) (Nat.le_succ _) _)⟩
set_option maxHeartbeats 8000000 in
theorem implCom_good (x0 x1 : Int) (x2 x3 : Bool) (x4 x5 x6 x7 x8 : Int) (a0 : Option Addr) (n0 c0 : Nat) (a1 : Option Addr) (n1 c1 : Nat) (fr kd cd rs : Int) (w : World) (cM : ∀ W, Below w.heap.size w W → Calls Tryd.prog 72 #[.agg #[.int .i64 x0, .int .i64 x1, .bool x2, .bool x3, .int .i64 x4, .int .i64 x5, .int .i64 x6, .int .i64 x7, .int .i64 x8, .slice a0 n0 c0, .slice a1 n1 c1]] W fun e w' => e = .returned (.bool true) ∧ Below W.heap.size W w') (hA : adrB fr = true) (LQ : List Int) (hq : LQ.length ≤ 65000)
    (cQ : ∀ W, Below w.heap.size w W → Calls Tryd.prog 73 #[.agg #[.int .i64 x0, .int .i64 x1, .bool x2, .bool x3, .int .i64 x4, .int .i64 x5, .int .i64 x6, .int .i64 x7, .int .i64 x8, .slice a0 n0 c0, .slice a1 n1 c1]] W fun e w' => ∃ v : Value, e = .returned v ∧ OwnB w' W.heap.size v LQ ∧ Below W.heap.size W w') (hk : (aboutN kd != 2) = false) (LE : List Int) (CE : Int) (cE : EncIcmpP 11 ErrT kd cd rs LQ LE CE) (he : ErrT w) (hC : (CE != 0) = false) :
    Calls Tryd.prog 34 #[.agg #[.int .i64 x0, .int .i64 x1, .bool x2, .bool x3, .int .i64 x4, .int .i64 x5, .int .i64 x6, .int .i64 x7, .int .i64 x8, .slice a0 n0 c0, .slice a1 n1 c1], .int .i64 fr, .int .i64 kd, .int .i64 cd, .int .i64 rs] w fun e w' => ∃ v : Value, e = .returned (.tuple #[.agg #[.int .i64 0, .int .i64 0, .bool false, .bool false, .int .i64 0, .int .i64 64, .int .i64 1, .int .i64 fr, .int .i64 x7, .slice none 0 0, v], .int .i64 0]) ∧ OwnB w' w.heap.size v LE ∧ Below w.heap.size w w' := by
  have HT0 := hide (TwoV.start w #[.int .i64 x0, .int .i64 x1, .bool x2, .bool x3, .int .i64 x4, .int .i64 x5, .int .i64 x6, .int .i64 x7, .int .i64 x8, .slice a0 n0 c0, .slice a1 n1 c1] #[.int .i64 0, .int .i64 0, .bool false, .bool false, .int .i64 0, .int .i64 0, .int .i64 0, .int .i64 0, .int .i64 0, .slice none 0 0, .slice none 0 0] 47)
  have CM := hide cM
  clear cM
  have CQ := hide cQ
  clear cQ
  have CE' := hide cE
  have HE := hide he
  clear cE he
  generalize hW : (w.alloc (.cells #[.int .i64 x0, .int .i64 x1, .bool x2, .bool x3, .int .i64 x4, .int .i64 x5, .int .i64 x6, .int .i64 x7, .int .i64 x8, .slice a0 n0 c0, .slice a1 n1 c1] 47)).alloc (.cells #[.int .i64 0, .int .i64 0, .bool false, .bool false, .int .i64 0, .int .i64 0, .int .i64 0, .int .i64 0, .int .i64 0, .slice none 0 0, .slice none 0 0] 47) = W0 at *
  have HW := hide hW
  clear hW
  have k0 := HT0.out.2.1.cell 0 _ rfl
  have k1 := HT0.out.2.1.cell 1 _ rfl
  have k2 := HT0.out.2.1.cell 2 _ rfl
  have k3 := HT0.out.2.1.cell 3 _ rfl
  have k4 := HT0.out.2.1.cell 4 _ rfl
  have k5 := HT0.out.2.1.cell 5 _ rfl
  have k6 := HT0.out.2.1.cell 6 _ rfl
  have k7 := HT0.out.2.1.cell 7 _ rfl
  have k8 := HT0.out.2.1.cell 8 _ rfl
  have k9 := HT0.out.2.1.cell 9 _ rfl
  have k10 := HT0.out.2.1.cell 10 _ rfl
  go_enter Tryd.func34, Tryd.ntmps34
  go_wp2_with fail
  rw [HW.out]
  refine (CM.out _ HT0.out.1).mono ?_
  rintro e W1 ⟨rfl, hb⟩
  have HT1 := hide (HT0.out.next hb)
  clear CM hb HT0 HW
  clear k0 k1 k2 k3 k4 k5 k6 k7 k8 k9 k10
  have k0 := HT1.out.2.1.cell 0 _ rfl
  have k1 := HT1.out.2.1.cell 1 _ rfl
  have k2 := HT1.out.2.1.cell 2 _ rfl
  have k3 := HT1.out.2.1.cell 3 _ rfl
  have k4 := HT1.out.2.1.cell 4 _ rfl
  have k5 := HT1.out.2.1.cell 5 _ rfl
  have k6 := HT1.out.2.1.cell 6 _ rfl
  have k7 := HT1.out.2.1.cell 7 _ rfl
  have k8 := HT1.out.2.1.cell 8 _ rfl
  have k9 := HT1.out.2.1.cell 9 _ rfl
  have k10 := HT1.out.2.1.cell 10 _ rfl
  go_wp2_with (go_at_call 50; refine (isAddr_walk _ _).mono ?_; rintro e w' ⟨rfl, rfl⟩)
  refine (CQ.out _ HT1.out.1).mono ?_
  rintro e W2 ⟨vq, rfl, hO, hb⟩
  have HT2 := hide (HT1.out.next hb)
  obtain ⟨aq, cq, eq, hAq⟩ := own_slice hO
  subst eq
  have hcq := own_cap hO
  have HAQ := hide hAq
  clear CQ hb HT1 hO hAq
  clear k0 k1 k2 k3 k4 k5 k6 k7 k8 k9 k10
  generalize hnq : LQ.length = nq at *
  have HNQ := hide hnq
  clear hnq
  have hal := (Below.refl W2.heap.size W2).alloc (Nat.le_refl _) (.cells #[.int .i64 kd, .int .i64 cd, .int .i64 rs, .slice aq nq cq] 28)
  have HT3 := hide (HT2.out.next hal)
  have HM3 : Hid (HoldV (W2.alloc (.cells #[.int .i64 kd, .int .i64 cd, .int .i64 rs, .slice aq nq cq] 28)) W2.heap.size #[.int .i64 kd, .int .i64 cd, .int .i64 rs, .slice aq nq cq] 28) := hide (heap_alloc_new _ _)
  have HA3 := hide (HAQ.out.below hal (Nat.le_refl _))
  clear hal HT2 HAQ
  go_wp2_with fail
  generalize W2.alloc (.cells #[.int .i64 kd, .int .i64 cd, .int .i64 rs, .slice aq nq cq] 28) = V at *
  generalize W2.heap.size = m at *
  refine (messageOf_walk kd cd rs aq nq cq V).mono ?_
  rintro e V1 ⟨rfl, hb⟩
  have HT4 := hide (HT3.out.next hb)
  have HM4 := hide (HM3.out.next hb)
  have HA4 := hide (HA3.out.below hb (Nat.le_refl _))
  clear hb HT3 HM3 HA3
  go_wp2_with fail
  refine (aboutWhat_walk kd cd rs (.slice aq nq cq) V1).mono ?_
  rintro e w' ⟨rfl, hw⟩
  rw [hw]
  clear hw
  have i0 := HM4.out.cell 0 _ rfl
  have i1 := HM4.out.cell 1 _ rfl
  have i2 := HM4.out.cell 2 _ rfl
  have i3 := HM4.out.cell 3 _ rfl
  go_wp2_with fail
  refine (CE'.out aq nq cq V1 HNQ.out HA4.out hcq (by omega) (HE.out.below HT4.out.1 (Nat.le_refl _))).mono ?_
  rintro e V2 ⟨ve, rfl, hO, hb⟩
  have HT5 := hide (HT4.out.next hb)
  have HO5 := hide (hO.mono (show w.heap.size + 1 + 1 ≤ V1.heap.size from HT4.out.2.2.lt))
  clear hb hO HT4 HM4 HA4 i0 i1 i2 i3
  have k0 := HT5.out.2.1.cell 0 _ rfl
  have k1 := HT5.out.2.1.cell 1 _ rfl
  have k2 := HT5.out.2.1.cell 2 _ rfl
  have k3 := HT5.out.2.1.cell 3 _ rfl
  have k4 := HT5.out.2.1.cell 4 _ rfl
  have k5 := HT5.out.2.1.cell 5 _ rfl
  have k6 := HT5.out.2.1.cell 6 _ rfl
  have k7 := HT5.out.2.1.cell 7 _ rfl
  have k8 := HT5.out.2.1.cell 8 _ rfl
  have k9 := HT5.out.2.1.cell 9 _ rfl
  have k10 := HT5.out.2.1.cell 10 _ rfl
  have d0 := HT5.out.2.2.cell 0 _ rfl
  have d1 := HT5.out.2.2.cell 1 _ rfl
  have d2 := HT5.out.2.2.cell 2 _ rfl
  have d3 := HT5.out.2.2.cell 3 _ rfl
  have d4 := HT5.out.2.2.cell 4 _ rfl
  have d5 := HT5.out.2.2.cell 5 _ rfl
  have d6 := HT5.out.2.2.cell 6 _ rfl
  have d7 := HT5.out.2.2.cell 7 _ rfl
  have d8 := HT5.out.2.2.cell 8 _ rfl
  have d9 := HT5.out.2.2.cell 9 _ rfl
  have d10 := HT5.out.2.2.cell 10 _ rfl
  have fz := HT5.out.2.2.frozen
  have hC0 : CE = 0 := by simpa using hC
  obtain ⟨ae, ce, ee, _⟩ := own_slice HO5.out
  subst ee
  go_wp2_with fail
  exact bodyPost_ret (v := .tuple #[.agg #[.int .i64 0, .int .i64 0, .bool false, .bool false, .int .i64 0, .int .i64 64, .int .i64 1, .int .i64 fr, .int .i64 x7, .slice none 0 0, .slice ae LE.length ce], .int .i64 0]) (by simp [results, Tryd.results34, go_sem, d0, d1, d2, d3, d4, d5, d6, d7, d8, d9, d10]) rfl ⟨_, rfl, (((((((((((HO5.out.setBelow (a := ⟨w.heap.size + 1, 0, none⟩) (Nat.lt_succ_self _) _).setBelow (a := ⟨w.heap.size + 1, 1, none⟩) (Nat.lt_succ_self _) _).setBelow (a := ⟨w.heap.size + 1, 2, none⟩) (Nat.lt_succ_self _) _).setBelow (a := ⟨w.heap.size + 1, 3, none⟩) (Nat.lt_succ_self _) _).setBelow (a := ⟨w.heap.size + 1, 4, none⟩) (Nat.lt_succ_self _) _).setBelow (a := ⟨w.heap.size + 1, 5, none⟩) (Nat.lt_succ_self _) _).setBelow (a := ⟨w.heap.size + 1, 6, none⟩) (Nat.lt_succ_self _) _).setBelow (a := ⟨w.heap.size + 1, 7, none⟩) (Nat.lt_succ_self _) _).setBelow (a := ⟨w.heap.size + 1, 8, none⟩) (Nat.lt_succ_self _) _).setBelow (a := ⟨w.heap.size + 1, 9, none⟩) (Nat.lt_succ_self _) _).setBelow (a := ⟨w.heap.size + 1, 10, none⟩) (Nat.lt_succ_self _) _).mono (by omega), (((((((((((HT5.out.1.setCell (p := ⟨w.heap.size + 1, 0, none⟩) (Nat.le_succ _) _).setCell (p := ⟨w.heap.size + 1, 1, none⟩) (Nat.le_succ _) _).setCell (p := ⟨w.heap.size + 1, 2, none⟩) (Nat.le_succ _) _).setCell (p := ⟨w.heap.size + 1, 3, none⟩) (Nat.le_succ _) _).setCell (p := ⟨w.heap.size + 1, 4, none⟩) (Nat.le_succ _) _).setCell (p := ⟨w.heap.size + 1, 5, none⟩) (Nat.le_succ _) _).setCell (p := ⟨w.heap.size + 1, 6, none⟩) (Nat.le_succ _) _).setCell (p := ⟨w.heap.size + 1, 7, none⟩) (Nat.le_succ _) _).setCell (p := ⟨w.heap.size + 1, 8, none⟩) (Nat.le_succ _) _).setCell (p := ⟨w.heap.size + 1, 9, none⟩) (Nat.le_succ _) _).setCell (p := ⟨w.heap.size + 1, 10, none⟩) (Nat.le_succ _) _)⟩
end Go.Proofs.YtakoagfeiolkjabDoor
