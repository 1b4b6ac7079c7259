/-
Contracts of functions of this seat.
-/
import Derived.Test.YthbkhfiadkookaaGreatDoorRows
import Derived.WalkKit
import Derived.ProofKit
import Derived.OpenShut
import Derived.Deep.QuietTactic
import Derived.Below
import Derived.Laws.Externs
import Derived.OwnWalk
import Derived.BigQuiet
import Derived.ArgAppend
import Derived.RegionTactic
import Derived.ChangeAlike
import Derived.Laws.IdiomStrings
import Derived.Laws.BytesArg
import Derived.Deep.RegionHeld3
import Derived.Deep.CutRange
import Derived.LaidEql
import Derived.Stop.Asserts
import Derived.RowKitTokens
import Derived.Laws.CopyOwn
import Derived.Laws.OwnMore
import Derived.StillTailTactics
import Derived.Lib.QuietBelow
import Derived.Test.YthbkhfiadkookaaGreatDoorPb
namespace Go.Proofs.YthbkhfiadkookaaGreatDoor
open Go.ChangeShapes Go.WideShapes Go.ChangeAt Go.RowKit
set_option linter.unusedVariables false
set_option maxRecDepth 100000
set_option maxRecDepth 100000
theorem own_cap {w : World} {B n cap : Nat} {a : Option Addr} {zs : List Int} (h : OwnB w B (.slice a n cap) zs) : n ≤ cap := by
  rcases h.1.2 with ⟨e, _⟩ | ⟨g, c, cs, e, _, _, hle, _⟩
  · cases e; omega
  · cases e; omega
/-- Two boxes laid at the world's end, and kept. -/
def TwoV (w W : World) (pv zr : Array Value) (T : Nat) : Prop := Below w.heap.size w W ∧ HoldV W w.heap.size pv T ∧ HoldV W (w.heap.size + 1) zr T
theorem TwoV.start (w : World) (pv zr : Array Value) (T : Nat) : TwoV w ((w.alloc (.cells pv T)).alloc (.cells zr T)) pv zr T := two_allocs w _ _
theorem TwoV.next {w W W' : World} {pv zr : Array Value} {T : Nat} (h : TwoV w W pv zr T) (hb : Below W.heap.size W W') : TwoV w W' pv zr T :=
  ⟨h.1.trans (hb.mono h.1.size), h.2.1.next hb, h.2.2.next hb⟩
set_option maxHeartbeats 8000000 in
theorem implCom_may (x0 x1 : Int) (x2 x3 : Bool) (x4 x5 x6 x7 x8 : Int) (a0 : Option Addr) (n0 c0 : Nat) (a1 : Option Addr) (n1 c1 : Nat) (fr kd cd rs : Int) (w : World) (cM : ∀ W, Below w.heap.size w W → Calls Tryz.prog 6 #[.agg #[.int .i64 x0, .int .i64 x1, .bool x2, .bool x3, .int .i64 x4, .int .i64 x5, .int .i64 x6, .int .i64 x7, .int .i64 x8, .slice a0 n0 c0, .slice a1 n1 c1]] W fun e w' => e = .returned (.bool false) ∧ Below W.heap.size W w') :
    Calls Tryz.prog 8 #[.agg #[.int .i64 x0, .int .i64 x1, .bool x2, .bool x3, .int .i64 x4, .int .i64 x5, .int .i64 x6, .int .i64 x7, .int .i64 x8, .slice a0 n0 c0, .slice a1 n1 c1], .int .i64 fr, .int .i64 kd, .int .i64 cd, .int .i64 rs] w fun e w' => e = .returned (.tuple #[.agg #[.int .i64 0, .int .i64 0, .bool false, .bool false, .int .i64 0, .int .i64 0, .int .i64 0, .int .i64 0, .int .i64 0, .slice none 0 0, .slice none 0 0], .int .i64 1]) ∧ Below w.heap.size w w' := by
  have HT0 := hide (TwoV.start w #[.int .i64 x0, .int .i64 x1, .bool x2, .bool x3, .int .i64 x4, .int .i64 x5, .int .i64 x6, .int .i64 x7, .int .i64 x8, .slice a0 n0 c0, .slice a1 n1 c1] #[.int .i64 0, .int .i64 0, .bool false, .bool false, .int .i64 0, .int .i64 0, .int .i64 0, .int .i64 0, .int .i64 0, .slice none 0 0, .slice none 0 0] 24)
  have CM := hide cM
  clear cM
  generalize hW : (w.alloc (.cells #[.int .i64 x0, .int .i64 x1, .bool x2, .bool x3, .int .i64 x4, .int .i64 x5, .int .i64 x6, .int .i64 x7, .int .i64 x8, .slice a0 n0 c0, .slice a1 n1 c1] 24)).alloc (.cells #[.int .i64 0, .int .i64 0, .bool false, .bool false, .int .i64 0, .int .i64 0, .int .i64 0, .int .i64 0, .int .i64 0, .slice none 0 0, .slice none 0 0] 24) = W0 at *
  have HW := hide hW
  clear hW
  have k0 := HT0.out.2.1.cell 0 _ rfl
  have k1 := HT0.out.2.1.cell 1 _ rfl
  have k2 := HT0.out.2.1.cell 2 _ rfl
  have k3 := HT0.out.2.1.cell 3 _ rfl
  have k4 := HT0.out.2.1.cell 4 _ rfl
  have k5 := HT0.out.2.1.cell 5 _ rfl
  have k6 := HT0.out.2.1.cell 6 _ rfl
  have k7 := HT0.out.2.1.cell 7 _ rfl
  have k8 := HT0.out.2.1.cell 8 _ rfl
  have k9 := HT0.out.2.1.cell 9 _ rfl
  have k10 := HT0.out.2.1.cell 10 _ rfl
  go_enter Tryz.func8, Tryz.ntmps8
  go_wp2_with fail
  rw [HW.out]
  refine (CM.out _ HT0.out.1).mono ?_
  rintro e W1 ⟨rfl, hb⟩
  have HT1 := hide (HT0.out.next hb)
  clear CM hb HT0 HW
  clear k0 k1 k2 k3 k4 k5 k6 k7 k8 k9 k10
  have d0 := HT1.out.2.2.cell 0 _ rfl
  have d1 := HT1.out.2.2.cell 1 _ rfl
  have d2 := HT1.out.2.2.cell 2 _ rfl
  have d3 := HT1.out.2.2.cell 3 _ rfl
  have d4 := HT1.out.2.2.cell 4 _ rfl
  have d5 := HT1.out.2.2.cell 5 _ rfl
  have d6 := HT1.out.2.2.cell 6 _ rfl
  have d7 := HT1.out.2.2.cell 7 _ rfl
  have d8 := HT1.out.2.2.cell 8 _ rfl
  have d9 := HT1.out.2.2.cell 9 _ rfl
  have d10 := HT1.out.2.2.cell 10 _ rfl
  have fz := HT1.out.2.2.frozen
  go_wp2_with fail
  exact bodyPost_ret (v := .tuple #[.agg #[.int .i64 0, .int .i64 0, .bool false, .bool false, .int .i64 0, .int .i64 0, .int .i64 0, .int .i64 0, .int .i64 0, .slice none 0 0, .slice none 0 0], .int .i64 1]) (by simp [results, Tryz.results8, go_sem, d0, d1, d2, d3, d4, d5, d6, d7, d8, d9, d10]) rfl ⟨rfl, (((((((((((HT1.out.1.setCell (p := ⟨w.heap.size + 1, 0, none⟩) (Nat.le_succ _) _).setCell (p := ⟨w.heap.size + 1, 1, none⟩) (Nat.le_succ _) _).setCell (p := ⟨w.heap.size + 1, 2, none⟩) (Nat.le_succ _) _).setCell (p := ⟨w.heap.size + 1, 3, none⟩) (Nat.le_succ _) _).setCell (p := ⟨w.heap.size + 1, 4, none⟩) (Nat.le_succ _) _).setCell (p := ⟨w.heap.size + 1, 5, none⟩) (Nat.le_succ _) _).setCell (p := ⟨w.heap.size + 1, 6, none⟩) (Nat.le_succ _) _).setCell (p := ⟨w.heap.size + 1, 7, none⟩) (Nat.le_succ _) _).setCell (p := ⟨w.heap.size + 1, 8, none⟩) (Nat.le_succ _) _).setCell (p := ⟨w.heap.size + 1, 9, none⟩) (Nat.le_succ _) _).setCell (p := ⟨w.heap.size + 1, 10, none⟩) (Nat.le_succ _) _)⟩
set_option maxHeartbeats 8000000 in
theorem implCom_from (x0 x1 : Int) (x2 x3 : Bool) (x4 x5 x6 x7 x8 : Int) (a0 : Option Addr) (n0 c0 : Nat) (a1 : Option Addr) (n1 c1 : Nat) (fr kd cd rs : Int) (w : World) (cM : ∀ W, Below w.heap.size w W → Calls Tryz.prog 6 #[.agg #[.int .i64 x0, .int .i64 x1, .bool x2, .bool x3, .int .i64 x4, .int .i64 x5, .int .i64 x6, .int .i64 x7, .int .i64 x8, .slice a0 n0 c0, .slice a1 n1 c1]] W fun e w' => e = .returned (.bool true) ∧ Below W.heap.size W w') (hA : adrB fr = false) :
    Calls Tryz.prog 8 #[.agg #[.int .i64 x0, .int .i64 x1, .bool x2, .bool x3, .int .i64 x4, .int .i64 x5, .int .i64 x6, .int .i64 x7, .int .i64 x8, .slice a0 n0 c0, .slice a1 n1 c1], .int .i64 fr, .int .i64 kd, .int .i64 cd, .int .i64 rs] w fun e w' => e = .returned (.tuple #[.agg #[.int .i64 0, .int .i64 0, .bool false, .bool false, .int .i64 0, .int .i64 0, .int .i64 0, .int .i64 0, .int .i64 0, .slice none 0 0, .slice none 0 0], .int .i64 1]) ∧ Below w.heap.size w w' := by
  have HT0 := hide (TwoV.start w #[.int .i64 x0, .int .i64 x1, .bool x2, .bool x3, .int .i64 x4, .int .i64 x5, .int .i64 x6, .int .i64 x7, .int .i64 x8, .slice a0 n0 c0, .slice a1 n1 c1] #[.int .i64 0, .int .i64 0, .bool false, .bool false, .int .i64 0, .int .i64 0, .int .i64 0, .int .i64 0, .int .i64 0, .slice none 0 0, .slice none 0 0] 24)
  have CM := hide cM
  clear cM
  generalize hW : (w.alloc (.cells #[.int .i64 x0, .int .i64 x1, .bool x2, .bool x3, .int .i64 x4, .int .i64 x5, .int .i64 x6, .int .i64 x7, .int .i64 x8, .slice a0 n0 c0, .slice a1 n1 c1] 24)).alloc (.cells #[.int .i64 0, .int .i64 0, .bool false, .bool false, .int .i64 0, .int .i64 0, .int .i64 0, .int .i64 0, .int .i64 0, .slice none 0 0, .slice none 0 0] 24) = W0 at *
  have HW := hide hW
  clear hW
  have k0 := HT0.out.2.1.cell 0 _ rfl
  have k1 := HT0.out.2.1.cell 1 _ rfl
  have k2 := HT0.out.2.1.cell 2 _ rfl
  have k3 := HT0.out.2.1.cell 3 _ rfl
  have k4 := HT0.out.2.1.cell 4 _ rfl
  have k5 := HT0.out.2.1.cell 5 _ rfl
  have k6 := HT0.out.2.1.cell 6 _ rfl
  have k7 := HT0.out.2.1.cell 7 _ rfl
  have k8 := HT0.out.2.1.cell 8 _ rfl
  have k9 := HT0.out.2.1.cell 9 _ rfl
  have k10 := HT0.out.2.1.cell 10 _ rfl
  go_enter Tryz.func8, Tryz.ntmps8
  go_wp2_with fail
  rw [HW.out]
  refine (CM.out _ HT0.out.1).mono ?_
  rintro e W1 ⟨rfl, hb⟩
  have HT1 := hide (HT0.out.next hb)
  clear CM hb HT0 HW
  clear k0 k1 k2 k3 k4 k5 k6 k7 k8 k9 k10
  have k0 := HT1.out.2.1.cell 0 _ rfl
  have k1 := HT1.out.2.1.cell 1 _ rfl
  have k2 := HT1.out.2.1.cell 2 _ rfl
  have k3 := HT1.out.2.1.cell 3 _ rfl
  have k4 := HT1.out.2.1.cell 4 _ rfl
  have k5 := HT1.out.2.1.cell 5 _ rfl
  have k6 := HT1.out.2.1.cell 6 _ rfl
  have k7 := HT1.out.2.1.cell 7 _ rfl
  have k8 := HT1.out.2.1.cell 8 _ rfl
  have k9 := HT1.out.2.1.cell 9 _ rfl
  have k10 := HT1.out.2.1.cell 10 _ rfl
  have d0 := HT1.out.2.2.cell 0 _ rfl
  have d1 := HT1.out.2.2.cell 1 _ rfl
  have d2 := HT1.out.2.2.cell 2 _ rfl
  have d3 := HT1.out.2.2.cell 3 _ rfl
  have d4 := HT1.out.2.2.cell 4 _ rfl
  have d5 := HT1.out.2.2.cell 5 _ rfl
  have d6 := HT1.out.2.2.cell 6 _ rfl
  have d7 := HT1.out.2.2.cell 7 _ rfl
  have d8 := HT1.out.2.2.cell 8 _ rfl
  have d9 := HT1.out.2.2.cell 9 _ rfl
  have d10 := HT1.out.2.2.cell 10 _ rfl
  have fz := HT1.out.2.2.frozen
  go_wp2_with (go_at_call 26; refine (isAddr_walk _ _).mono ?_; rintro e w' ⟨rfl, rfl⟩)
  exact bodyPost_ret (v := .tuple #[.agg #[.int .i64 0, .int .i64 0, .bool false, .bool false, .int .i64 0, .int .i64 0, .int .i64 0, .int .i64 0, .int .i64 0, .slice none 0 0, .slice none 0 0], .int .i64 1]) (by simp [results, Tryz.results8, go_sem, d0, d1, d2, d3, d4, d5, d6, d7, d8, d9, d10]) rfl ⟨rfl, (((((((((((HT1.out.1.setCell (p := ⟨w.heap.size + 1, 0, none⟩) (Nat.le_succ _) _).setCell (p := ⟨w.heap.size + 1, 1, none⟩) (Nat.le_succ _) _).setCell (p := ⟨w.heap.size + 1, 2, none⟩) (Nat.le_succ _) _).setCell (p := ⟨w.heap.size + 1, 3, none⟩) (Nat.le_succ _) _).setCell (p := ⟨w.heap.size + 1, 4, none⟩) (Nat.le_succ _) _).setCell (p := ⟨w.heap.size + 1, 5, none⟩) (Nat.le_succ _) _).setCell (p := ⟨w.heap.size + 1, 6, none⟩) (Nat.le_succ _) _).setCell (p := ⟨w.heap.size + 1, 7, none⟩) (Nat.le_succ _) _).setCell (p := ⟨w.heap.size + 1, 8, none⟩) (Nat.le_succ _) _).setCell (p := ⟨w.heap.size + 1, 9, none⟩) (Nat.le_succ _) _).setCell (p := ⟨w.heap.size + 1, 10, none⟩) (Nat.le_succ _) _)⟩
set_option maxHeartbeats 8000000 in
theorem implCom_kind (x0 x1 : Int) (x2 x3 : Bool) (x4 x5 x6 x7 x8 : Int) (a0 : Option Addr) (n0 c0 : Nat) (a1 : Option Addr) (n1 c1 : Nat) (fr kd cd rs : Int) (w : World) (cM : ∀ W, Below w.heap.size w W → Calls Tryz.prog 6 #[.agg #[.int .i64 x0, .int .i64 x1, .bool x2, .bool x3, .int .i64 x4, .int .i64 x5, .int .i64 x6, .int .i64 x7, .int .i64 x8, .slice a0 n0 c0, .slice a1 n1 c1]] W fun e w' => e = .returned (.bool true) ∧ Below W.heap.size W w') (hA : adrB fr = true) (LQ : List Int) (hq : LQ.length ≤ 65000)
    (cQ : ∀ W, Below w.heap.size w W → Calls Tryz.prog 27 #[.agg #[.int .i64 x0, .int .i64 x1, .bool x2, .bool x3, .int .i64 x4, .int .i64 x5, .int .i64 x6, .int .i64 x7, .int .i64 x8, .slice a0 n0 c0, .slice a1 n1 c1]] W fun e w' => ∃ v : Value, e = .returned v ∧ OwnB w' W.heap.size v LQ ∧ Below W.heap.size W w') (hk : (aboutN kd != 2) = true) :
    Calls Tryz.prog 8 #[.agg #[.int .i64 x0, .int .i64 x1, .bool x2, .bool x3, .int .i64 x4, .int .i64 x5, .int .i64 x6, .int .i64 x7, .int .i64 x8, .slice a0 n0 c0, .slice a1 n1 c1], .int .i64 fr, .int .i64 kd, .int .i64 cd, .int .i64 rs] w fun e w' => e = .returned (.tuple #[.agg #[.int .i64 0, .int .i64 0, .bool false, .bool false, .int .i64 0, .int .i64 0, .int .i64 0, .int .i64 0, .int .i64 0, .slice none 0 0, .slice none 0 0], .int .i64 1]) ∧ Below w.heap.size w w' := by
  have HT0 := hide (TwoV.start w #[.int .i64 x0, .int .i64 x1, .bool x2, .bool x3, .int .i64 x4, .int .i64 x5, .int .i64 x6, .int .i64 x7, .int .i64 x8, .slice a0 n0 c0, .slice a1 n1 c1] #[.int .i64 0, .int .i64 0, .bool false, .bool false, .int .i64 0, .int .i64 0, .int .i64 0, .int .i64 0, .int .i64 0, .slice none 0 0, .slice none 0 0] 24)
  have CM := hide cM
  clear cM
  have CQ := hide cQ
  clear cQ
  generalize hW : (w.alloc (.cells #[.int .i64 x0, .int .i64 x1, .bool x2, .bool x3, .int .i64 x4, .int .i64 x5, .int .i64 x6, .int .i64 x7, .int .i64 x8, .slice a0 n0 c0, .slice a1 n1 c1] 24)).alloc (.cells #[.int .i64 0, .int .i64 0, .bool false, .bool false, .int .i64 0, .int .i64 0, .int .i64 0, .int .i64 0, .int .i64 0, .slice none 0 0, .slice none 0 0] 24) = W0 at *
  have HW := hide hW
  clear hW
  have k0 := HT0.out.2.1.cell 0 _ rfl
  have k1 := HT0.out.2.1.cell 1 _ rfl
  have k2 := HT0.out.2.1.cell 2 _ rfl
  have k3 := HT0.out.2.1.cell 3 _ rfl
  have k4 := HT0.out.2.1.cell 4 _ rfl
  have k5 := HT0.out.2.1.cell 5 _ rfl
  have k6 := HT0.out.2.1.cell 6 _ rfl
  have k7 := HT0.out.2.1.cell 7 _ rfl
  have k8 := HT0.out.2.1.cell 8 _ rfl
  have k9 := HT0.out.2.1.cell 9 _ rfl
  have k10 := HT0.out.2.1.cell 10 _ rfl
  go_enter Tryz.func8, Tryz.ntmps8
  go_wp2_with fail
  rw [HW.out]
  refine (CM.out _ HT0.out.1).mono ?_
  rintro e W1 ⟨rfl, hb⟩
  have HT1 := hide (HT0.out.next hb)
  clear CM hb HT0 HW
  clear k0 k1 k2 k3 k4 k5 k6 k7 k8 k9 k10
  have k0 := HT1.out.2.1.cell 0 _ rfl
  have k1 := HT1.out.2.1.cell 1 _ rfl
  have k2 := HT1.out.2.1.cell 2 _ rfl
  have k3 := HT1.out.2.1.cell 3 _ rfl
  have k4 := HT1.out.2.1.cell 4 _ rfl
  have k5 := HT1.out.2.1.cell 5 _ rfl
  have k6 := HT1.out.2.1.cell 6 _ rfl
  have k7 := HT1.out.2.1.cell 7 _ rfl
  have k8 := HT1.out.2.1.cell 8 _ rfl
  have k9 := HT1.out.2.1.cell 9 _ rfl
  have k10 := HT1.out.2.1.cell 10 _ rfl
  go_wp2_with (go_at_call 26; refine (isAddr_walk _ _).mono ?_; rintro e w' ⟨rfl, rfl⟩)
  refine (CQ.out _ HT1.out.1).mono ?_
  rintro e W2 ⟨vq, rfl, hO, hb⟩
  have HT2 := hide (HT1.out.next hb)
  obtain ⟨aq, cq, eq, hAq⟩ := own_slice hO
  subst eq
  have hcq := own_cap hO
  have HAQ := hide hAq
  clear CQ hb HT1 hO hAq
  clear k0 k1 k2 k3 k4 k5 k6 k7 k8 k9 k10
  generalize hnq : LQ.length = nq at *
  have HNQ := hide hnq
  clear hnq
  have hal := (Below.refl W2.heap.size W2).alloc (Nat.le_refl _) (.cells #[.int .i64 kd, .int .i64 cd, .int .i64 rs, .slice aq nq cq] 34)
  have HT3 := hide (HT2.out.next hal)
  have HM3 : Hid (HoldV (W2.alloc (.cells #[.int .i64 kd, .int .i64 cd, .int .i64 rs, .slice aq nq cq] 34)) W2.heap.size #[.int .i64 kd, .int .i64 cd, .int .i64 rs, .slice aq nq cq] 34) := hide (heap_alloc_new _ _)
  have HA3 := hide (HAQ.out.below hal (Nat.le_refl _))
  clear hal HT2 HAQ
  go_wp2_with fail
  generalize W2.alloc (.cells #[.int .i64 kd, .int .i64 cd, .int .i64 rs, .slice aq nq cq] 34) = V at *
  generalize W2.heap.size = m at *
  refine (messageOf_walk kd cd rs aq nq cq V).mono ?_
  rintro e V1 ⟨rfl, hb⟩
  have HT4 := hide (HT3.out.next hb)
  have HM4 := hide (HM3.out.next hb)
  have HA4 := hide (HA3.out.below hb (Nat.le_refl _))
  clear hb HT3 HM3 HA3
  go_wp2_with fail
  refine (aboutWhat_walk kd cd rs (.slice aq nq cq) V1).mono ?_
  rintro e w' ⟨rfl, hw⟩
  rw [hw]
  clear hw
  have d0 := HT4.out.2.2.cell 0 _ rfl
  have d1 := HT4.out.2.2.cell 1 _ rfl
  have d2 := HT4.out.2.2.cell 2 _ rfl
  have d3 := HT4.out.2.2.cell 3 _ rfl
  have d4 := HT4.out.2.2.cell 4 _ rfl
  have d5 := HT4.out.2.2.cell 5 _ rfl
  have d6 := HT4.out.2.2.cell 6 _ rfl
  have d7 := HT4.out.2.2.cell 7 _ rfl
  have d8 := HT4.out.2.2.cell 8 _ rfl
  have d9 := HT4.out.2.2.cell 9 _ rfl
  have d10 := HT4.out.2.2.cell 10 _ rfl
  have fz := HT4.out.2.2.frozen
  go_wp2_with fail
  exact bodyPost_ret (v := .tuple #[.agg #[.int .i64 0, .int .i64 0, .bool false, .bool false, .int .i64 0, .int .i64 0, .int .i64 0, .int .i64 0, .int .i64 0, .slice none 0 0, .slice none 0 0], .int .i64 1]) (by simp [results, Tryz.results8, go_sem, d0, d1, d2, d3, d4, d5, d6, d7, d8, d9, d10]) rfl ⟨rfl, (((((((((((HT4.out.1.setCell (p := ⟨w.heap.size + 1, 0, none⟩) (Nat.le_succ _) _).setCell (p := ⟨w.heap.size + 1, 1, none⟩) (Nat.le_succ _) _).setCell (p := ⟨w.heap.size + 1, 2, none⟩) (Nat.le_succ _) _).setCell (p := ⟨w.heap.size + 1, 3, none⟩) (Nat.le_succ _) _).setCell (p := ⟨w.heap.size + 1, 4, none⟩) (Nat.le_succ _) _).setCell (p := ⟨w.heap.size + 1, 5, none⟩) (Nat.le_succ _) _).setCell (p := ⟨w.heap.size + 1, 6, none⟩) (Nat.le_succ _) _).setCell (p := ⟨w.heap.size + 1, 7, none⟩) (Nat.le_succ _) _).setCell (p := ⟨w.heap.size + 1, 8, none⟩) (Nat.le_succ _) _).setCell (p := ⟨w.heap.size + 1, 9, none⟩) (Nat.le_succ _) _).setCell (p := ⟨w.heap.size + 1, 10, none⟩) (Nat.le_succ _) _)⟩
set_option maxHeartbeats 8000000 in
theorem implCom_enc (x0 x1 : Int) (x2 x3 : Bool) (x4 x5 x6 x7 x8 : Int) (a0 : Option Addr) (n0 c0 : Nat) (a1 : Option Addr) (n1 c1 : Nat) (fr kd cd rs : Int) (w : World) (cM : ∀ W, Below w.heap.size w W → Calls Tryz.prog 6 #[.agg #[.int .i64 x0, .int .i64 x1, .bool x2, .bool x3, .int .i64 x4, .int .i64 x5, .int .i64 x6, .int .i64 x7, .int .i64 x8, .slice a0 n0 c0, .slice a1 n1 c1]] W fun e w' => e = .returned (.bool true) ∧ Below W.heap.size W w') (hA : adrB fr = true) (LQ : List Int) (hq : LQ.length ≤ 65000)
    (cQ : ∀ W, Below w.heap.size w W → Calls Tryz.prog 27 #[.agg #[.int .i64 x0, .int .i64 x1, .bool x2, .bool x3, .int .i64 x4, .int .i64 x5, .int .i64 x6, .int .i64 x7, .int .i64 x8, .slice a0 n0 c0, .slice a1 n1 c1]] W fun e w' => ∃ v : Value, e = .returned v ∧ OwnB w' W.heap.size v LQ ∧ Below W.heap.size W w') (hk : (aboutN kd != 2) = false) (LE : List Int) (CE : Int) (cE : EncIcmpP 30 ErrT kd cd rs LQ LE CE) (he : ErrT w) (hC : (CE != 0) = true) :
    Calls Tryz.prog 8 #[.agg #[.int .i64 x0, .int .i64 x1, .bool x2, .bool x3, .int .i64 x4, .int .i64 x5, .int .i64 x6, .int .i64 x7, .int .i64 x8, .slice a0 n0 c0, .slice a1 n1 c1], .int .i64 fr, .int .i64 kd, .int .i64 cd, .int .i64 rs] w fun e w' => e = .returned (.tuple #[.agg #[.int .i64 0, .int .i64 0, .bool false, .bool false, .int .i64 0, .int .i64 0, .int .i64 0, .int .i64 0, .int .i64 0, .slice none 0 0, .slice none 0 0], .int .i64 1]) ∧ Below w.heap.size w w' := by
  have HT0 := hide (TwoV.start w #[.int .i64 x0, .int .i64 x1, .bool x2, .bool x3, .int .i64 x4, .int .i64 x5, .int .i64 x6, .int .i64 x7, .int .i64 x8, .slice a0 n0 c0, .slice a1 n1 c1] #[.int .i64 0, .int .i64 0, .bool false, .bool false, .int .i64 0, .int .i64 0, .int .i64 0, .int .i64 0, .int .i64 0, .slice none 0 0, .slice none 0 0] 24)
  have CM := hide cM
  clear cM
  have CQ := hide cQ
  clear cQ
  have CE' := hide cE
  have HE := hide he
  clear cE he
  generalize hW : (w.alloc (.cells #[.int .i64 x0, .int .i64 x1, .bool x2, .bool x3, .int .i64 x4, .int .i64 x5, .int .i64 x6, .int .i64 x7, .int .i64 x8, .slice a0 n0 c0, .slice a1 n1 c1] 24)).alloc (.cells #[.int .i64 0, .int .i64 0, .bool false, .bool false, .int .i64 0, .int .i64 0, .int .i64 0, .int .i64 0, .int .i64 0, .slice none 0 0, .slice none 0 0] 24) = W0 at *
  have HW := hide hW
  clear hW
  have k0 := HT0.out.2.1.cell 0 _ rfl
  have k1 := HT0.out.2.1.cell 1 _ rfl
  have k2 := HT0.out.2.1.cell 2 _ rfl
  have k3 := HT0.out.2.1.cell 3 _ rfl
  have k4 := HT0.out.2.1.cell 4 _ rfl
  have k5 := HT0.out.2.1.cell 5 _ rfl
  have k6 := HT0.out.2.1.cell 6 _ rfl
  have k7 := HT0.out.2.1.cell 7 _ rfl
  have k8 := HT0.out.2.1.cell 8 _ rfl
  have k9 := HT0.out.2.1.cell 9 _ rfl
  have k10 := HT0.out.2.1.cell 10 _ rfl
  go_enter Tryz.func8, Tryz.ntmps8
  go_wp2_with fail
  rw [HW.out]
  refine (CM.out _ HT0.out.1).mono ?_
  rintro e W1 ⟨rfl, hb⟩
  have HT1 := hide (HT0.out.next hb)
  clear CM hb HT0 HW
  clear k0 k1 k2 k3 k4 k5 k6 k7 k8 k9 k10
  have k0 := HT1.out.2.1.cell 0 _ rfl
  have k1 := HT1.out.2.1.cell 1 _ rfl
  have k2 := HT1.out.2.1.cell 2 _ rfl
  have k3 := HT1.out.2.1.cell 3 _ rfl
  have k4 := HT1.out.2.1.cell 4 _ rfl
  have k5 := HT1.out.2.1.cell 5 _ rfl
  have k6 := HT1.out.2.1.cell 6 _ rfl
  have k7 := HT1.out.2.1.cell 7 _ rfl
  have k8 := HT1.out.2.1.cell 8 _ rfl
  have k9 := HT1.out.2.1.cell 9 _ rfl
  have k10 := HT1.out.2.1.cell 10 _ rfl
  go_wp2_with (go_at_call 26; refine (isAddr_walk _ _).mono ?_; rintro e w' ⟨rfl, rfl⟩)
  refine (CQ.out _ HT1.out.1).mono ?_
  rintro e W2 ⟨vq, rfl, hO, hb⟩
  have HT2 := hide (HT1.out.next hb)
  obtain ⟨aq, cq, eq, hAq⟩ := own_slice hO
  subst eq
  have hcq := own_cap hO
  have HAQ := hide hAq
  clear CQ hb HT1 hO hAq
  clear k0 k1 k2 k3 k4 k5 k6 k7 k8 k9 k10
  generalize hnq : LQ.length = nq at *
  have HNQ := hide hnq
  clear hnq
  have hal := (Below.refl W2.heap.size W2).alloc (Nat.le_refl _) (.cells #[.int .i64 kd, .int .i64 cd, .int .i64 rs, .slice aq nq cq] 34)
  have HT3 := hide (HT2.out.next hal)
  have HM3 : Hid (HoldV (W2.alloc (.cells #[.int .i64 kd, .int .i64 cd, .int .i64 rs, .slice aq nq cq] 34)) W2.heap.size #[.int .i64 kd, .int .i64 cd, .int .i64 rs, .slice aq nq cq] 34) := hide (heap_alloc_new _ _)
  have HA3 := hide (HAQ.out.below hal (Nat.le_refl _))
  clear hal HT2 HAQ
  go_wp2_with fail
  generalize W2.alloc (.cells #[.int .i64 kd, .int .i64 cd, .int .i64 rs, .slice aq nq cq] 34) = V at *
  generalize W2.heap.size = m at *
  refine (messageOf_walk kd cd rs aq nq cq V).mono ?_
  rintro e V1 ⟨rfl, hb⟩
  have HT4 := hide (HT3.out.next hb)
  have HM4 := hide (HM3.out.next hb)
  have HA4 := hide (HA3.out.below hb (Nat.le_refl _))
  clear hb HT3 HM3 HA3
  go_wp2_with fail
  refine (aboutWhat_walk kd cd rs (.slice aq nq cq) V1).mono ?_
  rintro e w' ⟨rfl, hw⟩
  rw [hw]
  clear hw
  have i0 := HM4.out.cell 0 _ rfl
  have i1 := HM4.out.cell 1 _ rfl
  have i2 := HM4.out.cell 2 _ rfl
  have i3 := HM4.out.cell 3 _ rfl
  go_wp2_with fail
  refine (CE'.out aq nq cq V1 HNQ.out HA4.out hcq (by omega) (HE.out.below HT4.out.1 (Nat.le_refl _))).mono ?_
  rintro e V2 ⟨ve, rfl, hO, hb⟩
  have HT5 := hide (HT4.out.next hb)
  have HO5 := hide (hO.mono (show w.heap.size + 1 + 1 ≤ V1.heap.size from HT4.out.2.2.lt))
  clear hb hO HT4 HM4 HA4 i0 i1 i2 i3
  have d0 := HT5.out.2.2.cell 0 _ rfl
  have d1 := HT5.out.2.2.cell 1 _ rfl
  have d2 := HT5.out.2.2.cell 2 _ rfl
  have d3 := HT5.out.2.2.cell 3 _ rfl
  have d4 := HT5.out.2.2.cell 4 _ rfl
  have d5 := HT5.out.2.2.cell 5 _ rfl
  have d6 := HT5.out.2.2.cell 6 _ rfl
  have d7 := HT5.out.2.2.cell 7 _ rfl
  have d8 := HT5.out.2.2.cell 8 _ rfl
  have d9 := HT5.out.2.2.cell 9 _ rfl
  have d10 := HT5.out.2.2.cell 10 _ rfl
  have fz := HT5.out.2.2.frozen
  go_wp2_with fail
  exact bodyPost_ret (v := .tuple #[.agg #[.int .i64 0, .int .i64 0, .bool false, .bool false, .int .i64 0, .int .i64 0, .int .i64 0, .int .i64 0, .int .i64 0, .slice none 0 0, .slice none 0 0], .int .i64 1]) (by simp [results, Tryz.results8, go_sem, d0, d1, d2, d3, d4, d5, d6, d7, d8, d9, d10]) rfl ⟨rfl, (((((((((((HT5.out.1.setCell (p := ⟨w.heap.size + 1, 0, none⟩) (Nat.le_succ _) _).setCell (p := ⟨w.heap.size + 1, 1, none⟩) (Nat.le_succ _) _).setCell (p := ⟨w.heap.size + 1, 2, none⟩) (Nat.le_succ _) _).setCell (p := ⟨w.heap.size + 1, 3, none⟩) (Nat.le_succ _) _).setCell (p := ⟨w.heap.size + 1, 4, none⟩) (Nat.le_succ _) _).setCell (p := ⟨w.heap.size + 1, 5, none⟩) (Nat.le_succ _) _).setCell (p := ⟨w.heap.size + 1, 6, none⟩) (Nat.le_succ _) _).setCell (p := ⟨w.heap.size + 1, 7, none⟩) (Nat.le_succ _) _).setCell (p := ⟨w.heap.size + 1, 8, none⟩) (Nat.le_succ _) _).setCell (p := ⟨w.heap.size + 1, 9, none⟩) (Nat.le_succ _) _).setCell (p := ⟨w.heap.size + 1, 10, none⟩) (Nat.le_succ _) _)⟩
set_option maxHeartbeats 8000000 in
theorem implCom_good (x0 x1 : Int) (x2 x3 : Bool) (x4 x5 x6 x7 x8 : Int) (a0 : Option Addr) (n0 c0 : Nat) (a1 : Option Addr) (n1 c1 : Nat) (fr kd cd rs : Int) (w : World) (cM : ∀ W, Below w.heap.size w W → Calls Tryz.prog 6 #[.agg #[.int .i64 x0, .int .i64 x1, .bool x2, .bool x3, .int .i64 x4, .int .i64 x5, .int .i64 x6, .int .i64 x7, .int .i64 x8, .slice a0 n0 c0, .slice a1 n1 c1]] W fun e w' => e = .returned (.bool true) ∧ Below W.heap.size W w') (hA : adrB fr = true) (LQ : List Int) (hq : LQ.length ≤ 65000)
    (cQ : ∀ W, Below w.heap.size w W → Calls Tryz.prog 27 #[.agg #[.int .i64 x0, .int .i64 x1, .bool x2, .bool x3, .int .i64 x4, .int .i64 x5, .int .i64 x6, .int .i64 x7, .int .i64 x8, .slice a0 n0 c0, .slice a1 n1 c1]] W fun e w' => ∃ v : Value, e = .returned v ∧ OwnB w' W.heap.size v LQ ∧ Below W.heap.size W w') (hk : (aboutN kd != 2) = false) (LE : List Int) (CE : Int) (cE : EncIcmpP 30 ErrT kd cd rs LQ LE CE) (he : ErrT w) (hC : (CE != 0) = false) :
    Calls Tryz.prog 8 #[.agg #[.int .i64 x0, .int .i64 x1, .bool x2, .bool x3, .int .i64 x4, .int .i64 x5, .int .i64 x6, .int .i64 x7, .int .i64 x8, .slice a0 n0 c0, .slice a1 n1 c1], .int .i64 fr, .int .i64 kd, .int .i64 cd, .int .i64 rs] w fun e w' => ∃ v : Value, e = .returned (.tuple #[.agg #[.int .i64 0, .int .i64 0, .bool false, .bool false, .int .i64 0, .int .i64 64, .int .i64 1, .int .i64 fr, .int .i64 x7, .slice none 0 0, v], .int .i64 0]) ∧ OwnB w' w.heap.size v LE ∧ Below w.heap.size w w' := by
  have HT0 := hide (TwoV.start w #[.int .i64 x0, .int .i64 x1, .bool x2, .bool x3, .int .i64 x4, .int .i64 x5, .int .i64 x6, .int .i64 x7, .int .i64 x8, .slice a0 n0 c0, .slice a1 n1 c1] #[.int .i64 0, .int .i64 0, .bool false, .bool false, .int .i64 0, .int .i64 0, .int .i64 0, .int .i64 0, .int .i64 0, .slice none 0 0, .slice none 0 0] 24)
  have CM := hide cM
  clear cM
  have CQ := hide cQ
  clear cQ
  have CE' := hide cE
  have HE := hide he
  clear cE he
  generalize hW : (w.alloc (.cells #[.int .i64 x0, .int .i64 x1, .bool x2, .bool x3, .int .i64 x4, .int .i64 x5, .int .i64 x6, .int .i64 x7, .int .i64 x8, .slice a0 n0 c0, .slice a1 n1 c1] 24)).alloc (.cells #[.int .i64 0, .int .i64 0, .bool false, .bool false, .int .i64 0, .int .i64 0, .int .i64 0, .int .i64 0, .int .i64 0, .slice none 0 0, .slice none 0 0] 24) = W0 at *
  have HW := hide hW
  clear hW
  have k0 := HT0.out.2.1.cell 0 _ rfl
  have k1 := HT0.out.2.1.cell 1 _ rfl
  have k2 := HT0.out.2.1.cell 2 _ rfl
  have k3 := HT0.out.2.1.cell 3 _ rfl
  have k4 := HT0.out.2.1.cell 4 _ rfl
  have k5 := HT0.out.2.1.cell 5 _ rfl
  have k6 := HT0.out.2.1.cell 6 _ rfl
  have k7 := HT0.out.2.1.cell 7 _ rfl
  have k8 := HT0.out.2.1.cell 8 _ rfl
  have k9 := HT0.out.2.1.cell 9 _ rfl
  have k10 := HT0.out.2.1.cell 10 _ rfl
  go_enter Tryz.func8, Tryz.ntmps8
  go_wp2_with fail
  rw [HW.out]
  refine (CM.out _ HT0.out.1).mono ?_
  rintro e W1 ⟨rfl, hb⟩
  have HT1 := hide (HT0.out.next hb)
  clear CM hb HT0 HW
  clear k0 k1 k2 k3 k4 k5 k6 k7 k8 k9 k10
  have k0 := HT1.out.2.1.cell 0 _ rfl
  have k1 := HT1.out.2.1.cell 1 _ rfl
  have k2 := HT1.out.2.1.cell 2 _ rfl
  have k3 := HT1.out.2.1.cell 3 _ rfl
  have k4 := HT1.out.2.1.cell 4 _ rfl
  have k5 := HT1.out.2.1.cell 5 _ rfl
  have k6 := HT1.out.2.1.cell 6 _ rfl
  have k7 := HT1.out.2.1.cell 7 _ rfl
  have k8 := HT1.out.2.1.cell 8 _ rfl
  have k9 := HT1.out.2.1.cell 9 _ rfl
  have k10 := HT1.out.2.1.cell 10 _ rfl
  go_wp2_with (go_at_call 26; refine (isAddr_walk _ _).mono ?_; rintro e w' ⟨rfl, rfl⟩)
  refine (CQ.out _ HT1.out.1).mono ?_
  rintro e W2 ⟨vq, rfl, hO, hb⟩
  have HT2 := hide (HT1.out.next hb)
  obtain ⟨aq, cq, eq, hAq⟩ := own_slice hO
  subst eq
  have hcq := own_cap hO
  have HAQ := hide hAq
  clear CQ hb HT1 hO hAq
  clear k0 k1 k2 k3 k4 k5 k6 k7 k8 k9 k10
  generalize hnq : LQ.length = nq at *
  have HNQ := hide hnq
  clear hnq
  have hal := (Below.refl W2.heap.size W2).alloc (Nat.le_refl _) (.cells #[.int .i64 kd, .int .i64 cd, .int .i64 rs, .slice aq nq cq] 34)
  have HT3 := hide (HT2.out.next hal)
  have HM3 : Hid (HoldV (W2.alloc (.cells #[.int .i64 kd, .int .i64 cd, .int .i64 rs, .slice aq nq cq] 34)) W2.heap.size #[.int .i64 kd, .int .i64 cd, .int .i64 rs, .slice aq nq cq] 34) := hide (heap_alloc_new _ _)
  have HA3 := hide (HAQ.out.below hal (Nat.le_refl _))
  clear hal HT2 HAQ
  go_wp2_with fail
  generalize W2.alloc (.cells #[.int .i64 kd, .int .i64 cd, .int .i64 rs, .slice aq nq cq] 34) = V at *
  generalize W2.heap.size = m at *
  refine (messageOf_walk kd cd rs aq nq cq V).mono ?_
  rintro e V1 ⟨rfl, hb⟩
  have HT4 := hide (HT3.out.next hb)
  have HM4 := hide (HM3.out.next hb)
  have HA4 := hide (HA3.out.below hb (Nat.le_refl _))
  clear hb HT3 HM3 HA3
  go_wp2_with fail
  refine (aboutWhat_walk kd cd rs (.slice aq nq cq) V1).mono ?_
  rintro e w' ⟨rfl, hw⟩
  rw [hw]
  clear hw
  have i0 := HM4.out.cell 0 _ rfl
  have i1 := HM4.out.cell 1 _ rfl
  have i2 := HM4.out.cell 2 _ rfl
  have i3 := HM4.out.cell 3 _ rfl
  go_wp2_with fail
  refine (CE'.out aq nq cq V1 HNQ.out HA4.out hcq (by omega) (HE.out.below HT4.out.1 (Nat.le_refl _))).mono ?_
  rintro e V2 ⟨ve, rfl, hO, hb⟩
  have HT5 := hide (HT4.out.next hb)
  have HO5 := hide (hO.mono (show w.heap.size + 1 + 1 ≤ V1.heap.size from HT4.out.2.2.lt))
  clear hb hO HT4 HM4 HA4 i0 i1 i2 i3
  have k0 := HT5.out.2.1.cell 0 _ rfl
  have k1 := HT5.out.2.1.cell 1 _ rfl
  have k2 := HT5.out.2.1.cell 2 _ rfl
  have k3 := HT5.out.2.1.cell 3 _ rfl
  have k4 := HT5.out.2.1.cell 4 _ rfl
  have k5 := HT5.out.2.1.cell 5 _ rfl
  have k6 := HT5.out.2.1.cell 6 _ rfl
  have k7 := HT5.out.2.1.cell 7 _ rfl
  have k8 := HT5.out.2.1.cell 8 _ rfl
  have k9 := HT5.out.2.1.cell 9 _ rfl
  have k10 := HT5.out.2.1.cell 10 _ rfl
  have d0 := HT5.out.2.2.cell 0 _ rfl
  have d1 := HT5.out.2.2.cell 1 _ rfl
  have d2 := HT5.out.2.2.cell 2 _ rfl
  have d3 := HT5.out.2.2.cell 3 _ rfl
  have d4 := HT5.out.2.2.cell 4 _ rfl
  have d5 := HT5.out.2.2.cell 5 _ rfl
  have d6 := HT5.out.2.2.cell 6 _ rfl
  have d7 := HT5.out.2.2.cell 7 _ rfl
  have d8 := HT5.out.2.2.cell 8 _ rfl
  have d9 := HT5.out.2.2.cell 9 _ rfl
  have d10 := HT5.out.2.2.cell 10 _ rfl
  have fz := HT5.out.2.2.frozen
  have hC0 : CE = 0 := by simpa using hC
  obtain ⟨ae, ce, ee, _⟩ := own_slice HO5.out
  subst ee
  go_wp2_with fail
  exact bodyPost_ret (v := .tuple #[.agg #[.int .i64 0, .int .i64 0, .bool false, .bool false, .int .i64 0, .int .i64 64, .int .i64 1, .int .i64 fr, .int .i64 x7, .slice none 0 0, .slice ae LE.length ce], .int .i64 0]) (by simp [results, Tryz.results8, go_sem, d0, d1, d2, d3, d4, d5, d6, d7, d8, d9, d10]) rfl ⟨_, rfl, (((((((((((HO5.out.setBelow (a := ⟨w.heap.size + 1, 0, none⟩) (Nat.lt_succ_self _) _).setBelow (a := ⟨w.heap.size + 1, 1, none⟩) (Nat.lt_succ_self _) _).setBelow (a := ⟨w.heap.size + 1, 2, none⟩) (Nat.lt_succ_self _) _).setBelow (a := ⟨w.heap.size + 1, 3, none⟩) (Nat.lt_succ_self _) _).setBelow (a := ⟨w.heap.size + 1, 4, none⟩) (Nat.lt_succ_self _) _).setBelow (a := ⟨w.heap.size + 1, 5, none⟩) (Nat.lt_succ_self _) _).setBelow (a := ⟨w.heap.size + 1, 6, none⟩) (Nat.lt_succ_self _) _).setBelow (a := ⟨w.heap.size + 1, 7, none⟩) (Nat.lt_succ_self _) _).setBelow (a := ⟨w.heap.size + 1, 8, none⟩) (Nat.lt_succ_self _) _).setBelow (a := ⟨w.heap.size + 1, 9, none⟩) (Nat.lt_succ_self _) _).setBelow (a := ⟨w.heap.size + 1, 10, none⟩) (Nat.lt_succ_self _) _).mono (by omega), (((((((((((HT5.out.1.setCell (p := ⟨w.heap.size + 1, 0, none⟩) (Nat.le_succ _) _).setCell (p := ⟨w.heap.size + 1, 1, none⟩) (Nat.le_succ _) _).setCell (p := ⟨w.heap.size + 1, 2, none⟩) (Nat.le_succ _) _).setCell (p := ⟨w.heap.size + 1, 3, none⟩) (Nat.le_succ _) _).setCell (p := ⟨w.heap.size + 1, 4, none⟩) (Nat.le_succ _) _).setCell (p := ⟨w.heap.size + 1, 5, none⟩) (Nat.le_succ _) _).setCell (p := ⟨w.heap.size + 1, 6, none⟩) (Nat.le_succ _) _).setCell (p := ⟨w.heap.size + 1, 7, none⟩) (Nat.le_succ _) _).setCell (p := ⟨w.heap.size + 1, 8, none⟩) (Nat.le_succ _) _).setCell (p := ⟨w.heap.size + 1, 9, none⟩) (Nat.le_succ _) _).setCell (p := ⟨w.heap.size + 1, 10, none⟩) (Nat.le_succ _) _)⟩
set_option maxRecDepth 100000
def hdF (n0 : Nat) : Int := bits .or .i64 64 ((20 + (n0 : Int)) / 4)
def hdL (x2 x3 : Bool) (x4 : Int) : Int := if x3 then bits .or .i64 (if x2 then bits .or .i64 (wrap64 (x4.tdiv 8)) 16384 else wrap64 (x4.tdiv 8)) 8192 else (if x2 then bits .or .i64 (wrap64 (x4.tdiv 8)) 16384 else wrap64 (x4.tdiv 8))
set_option maxHeartbeats 4000000 in
theorem headOf_any (x0 x1 : Int) (x2 x3 : Bool) (x4 x5 x6 x7 x8 : Int) (a0 : Option Addr) (n0 c0 : Nat) (a1 : Option Addr) (n1 c1 : Nat) (w : World) (m0 : n0 ≤ 1048576) (m1 : n1 ≤ 1048576) :
    Calls Tryz.prog 36 #[.agg #[.int .i64 x0, .int .i64 x1, .bool x2, .bool x3, .int .i64 x4, .int .i64 x5, .int .i64 x6, .int .i64 x7, .int .i64 x8, .slice a0 n0 c0, .slice a1 n1 c1]] w fun e w' => ∃ (H : Nat), e = .returned (.pointer (some ⟨H, 0, none⟩)) ∧ w.heap.size ≤ H ∧ Below w.heap.size w w' ∧ w'.heap[H]? = some (.cells #[.int .i64 (hdF n0), .int .i64 x0, .int .i64 (20 + (n0 : Int) + (n1 : Int)), .int .i64 x1, .int .i64 (hdL x2 x3 x4), .int .i64 x5, .int .i64 x6, .int .i64 x7, .int .i64 x8, .slice a0 n0 c0] 75) := by
  have HB := hide (BoxPacket.start w x0 x1 x2 x3 x4 x5 x6 x7 x8 (.slice a0 n0 c0) (.slice a1 n1 c1) 24)
  have CL := hide (fun W => headLength_walk x0 x1 x2 x3 x4 x5 x6 x7 x8 a0 n0 c0 a1 n1 c1 W m0)
  obtain ⟨_, _, k0, k1, k2, k3, k4, k5, k6, k7, k8, k9, k10⟩ := HB.out
  cases x2 <;> cases x3
  · go_enter Tryz.func36, Tryz.ntmps36
    go_wp2_with fail
    clear k0 k1 k2 k3 k4 k5 k6 k7 k8 k9 k10
    generalize w.alloc _ = W0 at *
    refine (CL.out _).mono ?_
    rintro e W ⟨rfl, hbl⟩
    replace HB := hide (HB.out.next hbl)
    clear hbl
    obtain ⟨_, _, k0, k1, k2, k3, k4, k5, k6, k7, k8, k9, k10⟩ := HB.out
    go_wp2_with fail
    clear k0 k1 k2 k3 k4 k5 k6 k7 k8 k9 k10
    go_region_held3 (fun w' => BoxPacket w w' x0 x1 false false x4 x5 x6 x7 x8 (.slice a0 n0 c0) (.slice a1 n1 c1)) (first | assumption | exact BoxPacket.next (by assumption) (by assumption) | exact HB.out.drew | exact BoxPacket.next (by assumption) ((Below.refl _ _).alloc (Nat.le_refl _) _))
      (first
        | (go_at_call 35; refine (headAndPayload_walk _ _ _ _ _ _ _ _ _ _ _ _ _ _ _ _ m0 m1).mono ?_; rintro e w' ⟨rfl, hbp⟩))
    all_goals (go_wp2_with fail; go_ret; exact ⟨_, rfl, Nat.le_trans HB.out.1.size hbp.size, BoxPacket.b (by assumption), heap_alloc_new _ _⟩)
  · go_enter Tryz.func36, Tryz.ntmps36
    go_wp2_with fail
    clear k0 k1 k2 k3 k4 k5 k6 k7 k8 k9 k10
    generalize w.alloc _ = W0 at *
    refine (CL.out _).mono ?_
    rintro e W ⟨rfl, hbl⟩
    replace HB := hide (HB.out.next hbl)
    clear hbl
    obtain ⟨_, _, k0, k1, k2, k3, k4, k5, k6, k7, k8, k9, k10⟩ := HB.out
    go_wp2_with fail
    clear k0 k1 k2 k3 k4 k5 k6 k7 k8 k9 k10
    go_region_held3 (fun w' => BoxPacket w w' x0 x1 false true x4 x5 x6 x7 x8 (.slice a0 n0 c0) (.slice a1 n1 c1)) (first | assumption | exact BoxPacket.next (by assumption) (by assumption) | exact HB.out.drew | exact BoxPacket.next (by assumption) ((Below.refl _ _).alloc (Nat.le_refl _) _))
      (first
        | (go_at_call 35; refine (headAndPayload_walk _ _ _ _ _ _ _ _ _ _ _ _ _ _ _ _ m0 m1).mono ?_; rintro e w' ⟨rfl, hbp⟩))
    all_goals (go_wp2_with fail; go_ret; exact ⟨_, rfl, Nat.le_trans HB.out.1.size hbp.size, BoxPacket.b (by assumption), heap_alloc_new _ _⟩)
  · go_enter Tryz.func36, Tryz.ntmps36
    go_wp2_with fail
    clear k0 k1 k2 k3 k4 k5 k6 k7 k8 k9 k10
    generalize w.alloc _ = W0 at *
    refine (CL.out _).mono ?_
    rintro e W ⟨rfl, hbl⟩
    replace HB := hide (HB.out.next hbl)
    clear hbl
    obtain ⟨_, _, k0, k1, k2, k3, k4, k5, k6, k7, k8, k9, k10⟩ := HB.out
    go_wp2_with fail
    clear k0 k1 k2 k3 k4 k5 k6 k7 k8 k9 k10
    go_region_held3 (fun w' => BoxPacket w w' x0 x1 true false x4 x5 x6 x7 x8 (.slice a0 n0 c0) (.slice a1 n1 c1)) (first | assumption | exact BoxPacket.next (by assumption) (by assumption) | exact HB.out.drew | exact BoxPacket.next (by assumption) ((Below.refl _ _).alloc (Nat.le_refl _) _))
      (first
        | (go_at_call 35; refine (headAndPayload_walk _ _ _ _ _ _ _ _ _ _ _ _ _ _ _ _ m0 m1).mono ?_; rintro e w' ⟨rfl, hbp⟩))
    all_goals (go_wp2_with fail; go_ret; exact ⟨_, rfl, Nat.le_trans HB.out.1.size hbp.size, BoxPacket.b (by assumption), heap_alloc_new _ _⟩)
  · go_enter Tryz.func36, Tryz.ntmps36
    go_wp2_with fail
    clear k0 k1 k2 k3 k4 k5 k6 k7 k8 k9 k10
    generalize w.alloc _ = W0 at *
    refine (CL.out _).mono ?_
    rintro e W ⟨rfl, hbl⟩
    replace HB := hide (HB.out.next hbl)
    clear hbl
    obtain ⟨_, _, k0, k1, k2, k3, k4, k5, k6, k7, k8, k9, k10⟩ := HB.out
    go_wp2_with fail
    clear k0 k1 k2 k3 k4 k5 k6 k7 k8 k9 k10
    go_region_held3 (fun w' => BoxPacket w w' x0 x1 true true x4 x5 x6 x7 x8 (.slice a0 n0 c0) (.slice a1 n1 c1)) (first | assumption | exact BoxPacket.next (by assumption) (by assumption) | exact HB.out.drew | exact BoxPacket.next (by assumption) ((Below.refl _ _).alloc (Nat.le_refl _) _))
      (first
        | (go_at_call 35; refine (headAndPayload_walk _ _ _ _ _ _ _ _ _ _ _ _ _ _ _ _ m0 m1).mono ?_; rintro e w' ⟨rfl, hbp⟩))
    all_goals (go_wp2_with fail; go_ret; exact ⟨_, rfl, Nat.le_trans HB.out.1.size hbp.size, BoxPacket.b (by assumption), heap_alloc_new _ _⟩)
set_option maxRecDepth 100000
def fitB (x4 : Int) (n0 n1 : Nat) : Bool := decide (20 + (n0 : Int) + (n1 : Int) ≤ 65535) && decide (x4 + (n1 : Int) ≤ 65535)
set_option maxHeartbeats 1000000 in
theorem fitsInBytes_walk (x0 x1 : Int) (x2 x3 : Bool) (x4 x5 x6 x7 x8 : Int) (a0 : Option Addr) (n0 c0 : Nat) (a1 : Option Addr) (n1 c1 : Nat) (w : World) (m0 : n0 ≤ 1048576) (m1 : n1 ≤ 1048576) (h4 : 0 ≤ x4) (h5 : x4 ≤ 65536) :
    Calls Tryz.prog 33 #[.agg #[.int .i64 x0, .int .i64 x1, .bool x2, .bool x3, .int .i64 x4, .int .i64 x5, .int .i64 x6, .int .i64 x7, .int .i64 x8, .slice a0 n0 c0, .slice a1 n1 c1]] w fun e w' => e = .returned (.bool (fitB x4 n0 n1)) ∧ Below w.heap.size w w' := by
  have HB := hide (BoxPacket.start w x0 x1 x2 x3 x4 x5 x6 x7 x8 (.slice a0 n0 c0) (.slice a1 n1 c1) 24)
  have CL := hide (fun W => headAndPayload_walk x0 x1 x2 x3 x4 x5 x6 x7 x8 a0 n0 c0 a1 n1 c1 W m0 m1)
  have CW := hide (fun W => within_walk x4 a1 n1 c1 W m1 h4 h5)
  obtain ⟨_, _, k0, k1, k2, k3, k4, k5, k6, k7, k8, k9, k10⟩ := HB.out
  cases hs : decide (20 + (n0 : Int) + (n1 : Int) ≤ 65535) with
  | false =>
    have E : Hid (fitB x4 n0 n1 = false) := hide (by unfold fitB; rw [hs]; rfl)
    have hs' := of_decide_eq_false hs
    go_enter Tryz.func33, Tryz.ntmps33
    go_wp2_with fail
    refine (CL.out _).mono ?_
    rintro e w1 ⟨rfl, hb1⟩
    go_wp2_with fail
    go_ret
    exact ⟨ret_bool E.out.symm, (HB.out.next hb1).1⟩
  | true =>
    have E : Hid (fitB x4 n0 n1 = decide (x4 + (n1 : Int) ≤ 65535)) := hide (by unfold fitB; rw [hs]; rfl)
    have hs' := of_decide_eq_true hs
    go_enter Tryz.func33, Tryz.ntmps33
    go_wp2_with fail
    refine (CL.out _).mono ?_
    rintro e w1 ⟨rfl, hb1⟩
    have HB1 := hide (HB.out.next hb1)
    clear k0 k1 k2 k3 k4 k5 k6 k7 k8 k9 k10 hb1
    obtain ⟨_, _, k0, k1, k2, k3, k4, k5, k6, k7, k8, k9, k10⟩ := HB1.out
    go_wp2_with fail
    refine (CW.out _).mono ?_
    rintro e w2 ⟨rfl, rfl⟩
    go_wp2_with fail
    go_ret
    exact ⟨ret_bool E.out.symm, HB1.out.1⟩
set_option maxHeartbeats 1000000 in
theorem fitsInBytes_any (x0 x1 : Int) (x2 x3 : Bool) (x4 x5 x6 x7 x8 : Int) (a0 : Option Addr) (n0 c0 : Nat) (a1 : Option Addr) (n1 c1 : Nat) (w : World) (m0 : n0 ≤ 1048576) (m1 : n1 ≤ 1048576) :
    Calls Tryz.prog 33 #[.agg #[.int .i64 x0, .int .i64 x1, .bool x2, .bool x3, .int .i64 x4, .int .i64 x5, .int .i64 x6, .int .i64 x7, .int .i64 x8, .slice a0 n0 c0, .slice a1 n1 c1]] w fun e w' => (∃ b : Bool, e = .returned (.bool b)) ∧ Below w.heap.size w w' := by
  have HB := hide (BoxPacket.start w x0 x1 x2 x3 x4 x5 x6 x7 x8 (.slice a0 n0 c0) (.slice a1 n1 c1) 24)
  have CL := hide (fun W => headAndPayload_walk x0 x1 x2 x3 x4 x5 x6 x7 x8 a0 n0 c0 a1 n1 c1 W m0 m1)
  have CW := hide (fun W => within_any x4 a1 n1 c1 W)
  obtain ⟨_, _, k0, k1, k2, k3, k4, k5, k6, k7, k8, k9, k10⟩ := HB.out
  by_cases hs : 20 + (n0 : Int) + (n1 : Int) ≤ 65535
  · go_enter Tryz.func33, Tryz.ntmps33
    go_wp2_with fail
    refine (CL.out _).mono ?_
    rintro e w1 ⟨rfl, hb1⟩
    have HB1 := hide (HB.out.next hb1)
    clear k0 k1 k2 k3 k4 k5 k6 k7 k8 k9 k10 hb1
    obtain ⟨_, _, k0, k1, k2, k3, k4, k5, k6, k7, k8, k9, k10⟩ := HB1.out
    go_wp2_with fail
    refine (CW.out _).mono ?_
    rintro e w2 ⟨⟨wb, rfl⟩, rfl⟩
    go_wp2_with fail
    go_ret
    exact ⟨⟨_, rfl⟩, HB1.out.1⟩
  · go_enter Tryz.func33, Tryz.ntmps33
    go_wp2_with fail
    refine (CL.out _).mono ?_
    rintro e w1 ⟨rfl, hb1⟩
    go_wp2_with fail
    go_ret
    first | exact ⟨⟨_, rfl⟩, (HB.out.next hb1).1⟩ | exact ⟨.inl rfl, (HB.out.next hb1).1⟩
def encB (x0 x1 x4 x5 x6 x7 x8 : Int) (n0 n1 : Nat) : Bool := pkOK x0 x1 x4 x5 x6 x7 x8 n0 && fitB x4 n0 n1
set_option maxHeartbeats 1000000 in
theorem encodes_walk (x0 x1 : Int) (x2 x3 : Bool) (x4 x5 x6 x7 x8 : Int) (a0 : Option Addr) (n0 c0 : Nat) (a1 : Option Addr) (n1 c1 : Nat) (w : World) (m0 : n0 ≤ 1048576) (m1 : n1 ≤ 1048576) :
    Calls Tryz.prog 22 #[.agg #[.int .i64 x0, .int .i64 x1, .bool x2, .bool x3, .int .i64 x4, .int .i64 x5, .int .i64 x6, .int .i64 x7, .int .i64 x8, .slice a0 n0 c0, .slice a1 n1 c1]] w fun e w' => e = .returned (.bool (encB x0 x1 x4 x5 x6 x7 x8 n0 n1)) ∧ Below w.heap.size w w' := by
  have HB := hide (BoxPacket.start w x0 x1 x2 x3 x4 x5 x6 x7 x8 (.slice a0 n0 c0) (.slice a1 n1 c1) 24)
  have CV := hide (fun W => validPacket_walk x0 x1 x2 x3 x4 x5 x6 x7 x8 a0 n0 c0 a1 n1 c1 W m0)
  obtain ⟨_, _, k0, k1, k2, k3, k4, k5, k6, k7, k8, k9, k10⟩ := HB.out
  cases h : pkOK x0 x1 x4 x5 x6 x7 x8 n0 with
  | false =>
    have E : Hid (encB x0 x1 x4 x5 x6 x7 x8 n0 n1 = false) := hide (by unfold encB; rw [h]; rfl)
    rw [h] at CV
    go_enter Tryz.func22, Tryz.ntmps22
    go_wp2_with fail
    refine (CV.out _).mono ?_
    rintro e w1 ⟨rfl, hb1⟩
    go_wp2_with fail
    go_ret
    exact ⟨ret_bool E.out.symm, (HB.out.next hb1).1⟩
  | true =>
    have E : Hid (encB x0 x1 x4 x5 x6 x7 x8 n0 n1 = fitB x4 n0 n1) := hide (by unfold encB; rw [h]; rfl)
    obtain ⟨_, _, p4, _⟩ := pkOK_parts h
    have CF := hide (fun W => fitsInBytes_walk x0 x1 x2 x3 x4 x5 x6 x7 x8 a0 n0 c0 a1 n1 c1 W m0 m1 p4.1 (by omega))
    rw [h] at CV
    clear h p4
    go_enter Tryz.func22, Tryz.ntmps22
    go_wp2_with fail
    refine (CV.out _).mono ?_
    rintro e w1 ⟨rfl, hb1⟩
    have HB1 := hide (HB.out.next hb1)
    clear k0 k1 k2 k3 k4 k5 k6 k7 k8 k9 k10 hb1
    obtain ⟨_, _, k0, k1, k2, k3, k4, k5, k6, k7, k8, k9, k10⟩ := HB1.out
    go_wp2_with fail
    refine (CF.out _).mono ?_
    rintro e w2 ⟨rfl, hb2⟩
    go_wp2_with fail
    go_ret
    exact ⟨ret_bool E.out.symm, (HB1.out.next hb2).1⟩
set_option maxRecDepth 100000
/-- The packet's box and the cursor's, laid. -/
abbrev encPW (w : World) (x0 x1 : Int) (x2 x3 : Bool) (x4 x5 x6 x7 x8 : Int) (v0 v1 : Value) : World := (w.alloc (.cells #[.int .i64 x0, .int .i64 x1, .bool x2, .bool x3, .int .i64 x4, .int .i64 x5, .int .i64 x6, .int .i64 x7, .int .i64 x8, v0, v1] 24)).alloc (.cells #[.slice none 0 0, .int .i64 0, .nilIface] 65)
theorem encPW_facts (w : World) (x0 x1 : Int) (x2 x3 : Bool) (x4 x5 x6 x7 x8 : Int) (v0 v1 : Value) : BoxPacket w (encPW w x0 x1 x2 x3 x4 x5 x6 x7 x8 v0 v1) x0 x1 x2 x3 x4 x5 x6 x7 x8 v0 v1 ∧ Cur (encPW w x0 x1 x2 x3 x4 x5 x6 x7 x8 v0 v1) (w.heap.size + 1) (.slice none 0 0) 0 .nilIface := by
  have h1 := BoxPacket.start w x0 x1 x2 x3 x4 x5 x6 x7 x8 v0 v1 24
  have hs := World.size_alloc w (.cells #[.int .i64 x0, .int .i64 x1, .bool x2, .bool x3, .int .i64 x4, .int .i64 x5, .int .i64 x6, .int .i64 x7, .int .i64 x8, v0, v1] 24)
  refine ⟨h1.next ((Below.refl _ _).alloc (Nat.le_refl _) _), ?_⟩
  unfold Cur
  rw [← hs]
  exact heap_alloc_new _ _
set_option maxHeartbeats 4000000 in
theorem implEncIP_ok (x0 x1 : Int) (x2 x3 : Bool) (x4 x5 x6 x7 x8 : Int) (a0 : Option Addr) (n0 c0 : Nat) (a1 : Option Addr) (n1 c1 : Nat) (z0 z1 : List Int) (w : World) (h0n : z0.length = n0) (h0a : Arr w a0 z0) (h1n : z1.length = n1) (h1a : Arr w a1 z1) (m0 : n0 ≤ 1048576) (m1 : n1 ≤ 1048576) (h : pkOK x0 x1 x4 x5 x6 x7 x8 n0 = true) (N : Nat) (hN : 20 + (n0 : Int) + (n1 : Int) = (N : Int)) (hs1 : N ≤ 65535) (hs2 : x4 + (n1 : Int) ≤ 65535) (L : List Int) (hL : splice (hdB (hdF n0) x0 (N : Int) x1 (hdL x2 x3 x4) x5 x6 x7 x8 z0) 10 (putL (csum (hdB (hdF n0) x0 (N : Int) x1 (hdL x2 x3 x4) x5 x6 x7 x8 z0)) 2) ++ z1 = L) :
    Calls Tryz.prog 9 #[.agg #[.int .i64 x0, .int .i64 x1, .bool x2, .bool x3, .int .i64 x4, .int .i64 x5, .int .i64 x6, .int .i64 x7, .int .i64 x8, .slice a0 n0 c0, .slice a1 n1 c1]] w fun e w' => ∃ v : Value, e = .returned (.tuple #[v, .int .i64 0]) ∧ OwnB w' w.heap.size v L ∧ Below w.heap.size w w' := by
  have HF := hide (encPW_facts w x0 x1 x2 x3 x4 x5 x6 x7 x8 (.slice a0 n0 c0) (.slice a1 n1 c1))
  have CV := hide (fun W => by have h' := validPacket_walk x0 x1 x2 x3 x4 x5 x6 x7 x8 a0 n0 c0 a1 n1 c1 W m0; rw [h] at h'; exact h')
  have CP := hide (fun W => by have h' := headAndPayload_walk x0 x1 x2 x3 x4 x5 x6 x7 x8 a0 n0 c0 a1 n1 c1 W m0 m1; rw [hN] at h'; exact h')
  have CH := hide (fun W => by have h' := headOf_any x0 x1 x2 x3 x4 x5 x6 x7 x8 a0 n0 c0 a1 n1 c1 W m0 m1; rw [hN] at h'; exact h')
  have HNN : Hid (20 + n0 + n1 = N) := hide (by omega)
  have hi1 : (N : Int) ≤ 65535 := by omega
  have HA0 := hide h0a
  have HA1 := hide h1a
  have HZ0 := hide h0n
  have HZ1 := hide h1n
  have HLq := hide hL
  obtain ⟨_, _, b4, _, _, _, _, l0, _, _⟩ := pkOK_parts h
  have CW : Hid (∀ W, Calls Tryz.prog 33 #[.agg #[.int .i64 x0, .int .i64 x1, .bool x2, .bool x3, .int .i64 x4, .int .i64 x5, .int .i64 x6, .int .i64 x7, .int .i64 x8, .slice a0 n0 c0, .slice a1 n1 c1]] W fun e w' => e = .returned (.bool true) ∧ Below W.heap.size W w') := hide (fun W => by have h' := fitsInBytes_walk x0 x1 x2 x3 x4 x5 x6 x7 x8 a0 n0 c0 a1 n1 c1 W m0 m1 b4.1 (by omega); rw [show fitB x4 n0 n1 = true by unfold fitB; rw [decide_eq_true (by omega), decide_eq_true hs2]; rfl] at h'; exact h')
  clear h hs2 hN h0a h1a h0n h1n b4 l0 hs1 hL
  obtain ⟨⟨_, _, k0, k1, k2, k3, k4, k5, k6, k7, k8, k9, k10⟩, hc0⟩ := HF.out
  clear hc0
  go_enter Tryz.func9, Tryz.ntmps9
  go_wp2_with fail
  generalize hW : encPW w x0 x1 x2 x3 x4 x5 x6 x7 x8 (.slice a0 n0 c0) (.slice a1 n1 c1) = W at *
  unfold encPW at hW
  rw [hW]
  clear hW
  refine (CV.out _).mono ?_
  rintro e w1 ⟨rfl, hb1⟩
  have HB1 := hide (HF.out.1.next hb1)
  have HC1 := hide (HF.out.2.below hb1 HF.out.2.lt)
  clear k0 k1 k2 k3 k4 k5 k6 k7 k8 k9 k10 HF hb1 CV
  obtain ⟨_, _, k0, k1, k2, k3, k4, k5, k6, k7, k8, k9, k10⟩ := HB1.out
  go_wp2_with fail
  refine (demand_yes (w.heap.size + 1) 0 (.slice none 0 0) _ _ HC1.out).mono ?_
  rintro e w2 ⟨rfl, hw2⟩
  rw [hw2]
  clear hw2
  go_wp2_with fail
  refine (CW.out _).mono ?_
  rintro e w2 ⟨rfl, hb2⟩
  have HB2 := hide (HB1.out.next hb2)
  have HC2 := hide (HC1.out.below hb2 HC1.out.lt)
  clear k0 k1 k2 k3 k4 k5 k6 k7 k8 k9 k10 HB1 HC1 hb2
  obtain ⟨_, _, k0, k1, k2, k3, k4, k5, k6, k7, k8, k9, k10⟩ := HB2.out
  go_wp2_with fail
  refine (demand_yes (w.heap.size + 1) 0 (.slice none 0 0) _ _ HC2.out).mono ?_
  rintro e w3 ⟨rfl, hw3⟩
  rw [hw3]
  clear hw3
  go_wp2_with fail
  refine (CP.out _).mono ?_
  rintro e w3 ⟨rfl, hb3⟩
  have HB3 := hide (HB2.out.next hb3)
  have HC3 := hide (HC2.out.below hb3 HC2.out.lt)
  clear k0 k1 k2 k3 k4 k5 k6 k7 k8 k9 k10 HB2 HC2 hb3 CP CW
  have CM := hide (makeRoom_ok (w.heap.size + 1) 0 (.slice none 0 0) N w3 HC3.out (by omega))
  go_wp2_with fail
  refine CM.out.mono ?_
  rintro e w4 ⟨rfl, hc4, hr4, hg4⟩
  have hsz0 := HC3.out.lt
  have HB4 := hide (HB3.out.keep (grown_under hg4 (Nat.le_refl _) (by omega)) (by omega))
  have HC4 := hide hc4
  have HR4 := hide hr4
  clear CM hc4 hr4 hg4 HB3 HC3
  generalize w3.heap.size = G at *
  obtain ⟨_, _, k0, k1, k2, k3, k4, k5, k6, k7, k8, k9, k10⟩ := HB4.out
  go_wp2_with fail
  refine (CH.out _).mono ?_
  rintro e w5 ⟨H, rfl, hH, hb5, hh5⟩
  have HB5 := hide (HB4.out.next hb5)
  have HC5 := hide (HC4.out.below hb5 HC4.out.lt)
  have HR5 := hide (HR4.out.below hb5 HR4.out.lt)
  have hGl := HR4.out.lt
  have HH5 : Hid (HdC w5 H _ _ _ _ _ _ _ _ _ _) := hide hh5
  clear k0 k1 k2 k3 k4 k5 k6 k7 k8 k9 k10 HB4 HC4 HR4 hb5 hh5 CH
  have HAG0 : Hid (∀ j, j < z0.length → ∃ b off, a0 = some ⟨b, off, none⟩ ∧ b < w.heap.size + 1) := hide (fun j hj => by obtain ⟨b, off, e, hlt, _⟩ := HA0.out.2 j hj; exact ⟨b, off, e, by omega⟩)
  have HAG1 : Hid (∀ j, j < z1.length → ∃ b off, a1 = some ⟨b, off, none⟩ ∧ b < w.heap.size + 1) := hide (fun j hj => by obtain ⟨b, off, e, hlt, _⟩ := HA1.out.2 j hj; exact ⟨b, off, e, by omega⟩)
  have CU := hide (putHead_ok (w.heap.size + 1) G H N n0 c0 a0 _ _ _ _ _ _ _ _ _ z0 w5 HC5.out HR5.out HH5.out (by omega) (by omega) (by omega) (by have := HNN.out; omega) (by omega) HZ0.out (HA0.out.below HB5.out.1 (Nat.le_refl _)) HAG0.out)
  go_wp2_with fail
  refine CU.out.mono ?_
  rintro e w6 ⟨rfl, hc6, hr6, ho6⟩
  have hb6 : Below (w.heap.size + 1) w5 w6 := ho6.below (by intro x hx; simp at hx; omega) (by have := HC5.out.lt; omega)
  have HB6 := hide (HB5.out.keep hb6 (by omega))
  have HC6 := hide hc6
  have HLN : Hid (N - 20 - n0 = n1) := hide (by have := HNN.out; omega)
  rw [HLN.out] at hr6
  have HL : Hid ((splice (hdB (hdF n0) x0 (N : Int) x1 (hdL x2 x3 x4) x5 x6 x7 x8 z0) 10 (putL (csum (hdB (hdF n0) x0 (N : Int) x1 (hdL x2 x3 x4) x5 x6 x7 x8 z0)) 2)).length = 20 + n0) := hide (by rw [length_splice _ _ _ (by rw [putL_len, hdB_len]; omega), hdB_len, HZ0.out])
  have HSP : Hid (∀ ys : List Int, splice (hdB (hdF n0) x0 (N : Int) x1 (hdL x2 x3 x4) x5 x6 x7 x8 z0 ++ ys) 10 (putL (csum (hdB (hdF n0) x0 (N : Int) x1 (hdL x2 x3 x4) x5 x6 x7 x8 z0)) 2) = splice (hdB (hdF n0) x0 (N : Int) x1 (hdL x2 x3 x4) x5 x6 x7 x8 z0) 10 (putL (csum (hdB (hdF n0) x0 (N : Int) x1 (hdL x2 x3 x4) x5 x6 x7 x8 z0)) 2) ++ ys) := hide (fun ys => splice_left _ _ _ _ (by rw [putL_len, hdB_len]; omega))
  rw [HSP.out] at hr6
  have HBD : Hid (∀ z ∈ splice (hdB (hdF n0) x0 (N : Int) x1 (hdL x2 x3 x4) x5 x6 x7 x8 z0) 10 (putL (csum (hdB (hdF n0) x0 (N : Int) x1 (hdL x2 x3 x4) x5 x6 x7 x8 z0)) 2), 0 ≤ z ∧ z ≤ 255) := hide (splice_bd _ _ _ (hdB_bd _ _ _ _ _ _ _ _ _ _ HA0.out.1) (fun z hz => putL_bd _ _ z hz))
  have HR6 := hide hr6
  clear CU hc6 hr6 ho6 hb6 HB5 HC5 HR5 HH5 HSP
  generalize splice (hdB (hdF n0) x0 (N : Int) x1 (hdL x2 x3 x4) x5 x6 x7 x8 z0) 10 (putL (csum (hdB (hdF n0) x0 (N : Int) x1 (hdL x2 x3 x4) x5 x6 x7 x8 z0)) 2) = D at *
  obtain ⟨_, _, k0, k1, k2, k3, k4, k5, k6, k7, k8, k9, k10⟩ := HB6.out
  have CB := hide (putBytes_onl (w.heap.size + 1) G N (20 + n0) n1 n1 c1 a1 D z1 w6 HC6.out HR6.out (by omega) HL.out (by have := HNN.out; omega) (by omega) (Nat.le_refl _) HZ1.out (HA1.out.below HB6.out.1 (Nat.le_refl _)) HAG1.out)
  go_wp2_with fail
  refine CB.out.mono ?_
  rintro e w7 ⟨rfl, hc7, hr7, ho7⟩
  have hb7 : Below (w.heap.size + 1) w6 w7 := ho7.below (by intro x hx; simp at hx; omega) (by have := HC6.out.lt; omega)
  have HB7 := hide (HB6.out.keep hb7 (by omega))
  have HC7 := hide hc7
  rw [Nat.sub_self, List.replicate_zero, List.append_nil] at hr7
  have HR7 := hide hr7
  clear k0 k1 k2 k3 k4 k5 k6 k7 k8 k9 k10 CB hc7 hr7 ho7 hb7 HB6 HC6 HR6
  obtain ⟨c0', c1', c2', cf⟩ := HC7.out.cells
  have HB8 := HB7
  have HC8 := HC7
  have HR8 := HR7
  clear c0' c1' c2' cf
  obtain ⟨c0', c1', c2', cf⟩ := HC8.out.cells
  have HLL : Hid ((D ++ z1).length = N) := hide (by rw [List.length_append, HL.out, HZ1.out]; exact HNN.out)
  have HO := HR8.out.own (B := w.heap.size) (by omega) (fun z hz => by rcases List.mem_append.1 hz with hz | hz; exact HBD.out z hz; exact HA1.out.1 z hz) (by rw [HLL.out]; omega)
  rw [HLL.out, HLq.out] at HO
  have HO' := hide HO
  clear HO
  have CA := hide (ansB_nil (some ⟨G, 0, none⟩) N N w7.drew)
  have HK : Hid (w7.drew.cell? ⟨w.heap.size + 1, 0, none⟩ = some (.slice (some ⟨G, 0, none⟩) N N) ∧ w7.drew.cell? ⟨w.heap.size + 1, 2, none⟩ = some .nilIface) := hide ⟨c0', c2'⟩
  have hlt8 : w.heap.size + 1 < w7.heap.size := lt_cell c0'
  have HOD := hide HO'.out.drew
  have HBD := hide HB8.out.1.drew
  clear HO'
  go_wp2_with fail
  go_region_held3 (fun w' => w'.cell? ⟨w.heap.size + 1, 0, none⟩ = some (.slice (some ⟨G, 0, none⟩) N N) ∧ w'.cell? ⟨w.heap.size + 1, 2, none⟩ = some .nilIface) (first | with_reducible assumption | with_reducible exact HK.out)
    ((go_at_call 39; refine CA.out.mono ?_; rintro e w88 ⟨rfl, hb88⟩; have hk9 : w88.cell? ⟨w.heap.size + 1, 0, none⟩ = some (.slice (some ⟨G, 0, none⟩) N N) ∧ w88.cell? ⟨w.heap.size + 1, 2, none⟩ = some .nilIface := ⟨(hb88.cell (p := ⟨w.heap.size + 1, 0, none⟩) hlt8).trans HK.out.1, (hb88.cell (p := ⟨w.heap.size + 1, 2, none⟩) hlt8).trans HK.out.2⟩))
  all_goals
    go_wp2_with fail
    go_ret2
    exact ⟨.slice (some ⟨G, 0, none⟩) N N, rfl, HOD.out.next hb88, HBD.out.trans (hb88.mono HBD.out.size)⟩
set_option maxRecDepth 100000
theorem arr_take {w : World} {a : Option Addr} {zs : List Int} (h : Arr w a zs) (k : Nat) : Arr w a (zs.take k) := by
  refine ⟨fun z hz => h.1 z (List.mem_of_mem_take hz), fun j hj => ?_⟩
  have hj2 : j < zs.length := by rw [List.length_take] at hj; omega
  obtain ⟨b, off, e, hlt, hc⟩ := h.2 j hj2
  refine ⟨b, off, e, hlt, ?_⟩
  rw [hc, List.getD_eq_getElem?_getD, List.getD_eq_getElem?_getD, List.getElem?_take_of_lt (by rw [List.length_take] at hj; omega)]
set_option maxHeartbeats 4000000 in
theorem quoteOf_all (x0 x1 : Int) (x2 x3 : Bool) (x4 x5 x6 x7 x8 : Int) (a0 : Option Addr) (n0 c0 : Nat) (a1 : Option Addr) (n1 c1 : Nat) (z0 z1 : List Int) (w : World) (h0n : z0.length = n0) (h0a : Arr w a0 z0) (h1n : z1.length = n1) (h1a : Arr w a1 z1) (m0 : n0 ≤ 1000) (m1 : n1 ≤ 1048576) (q1 : n1 ≤ c1) (hK : n1 ≤ 8) (hK2 : (n1 : Int) ≤ 8) (N : Nat) (hN : 20 + (n0 : Int) + (n1 : Int) = (N : Int)) (L : List Int) (hL : splice (hdB (hdF n0) x0 (N : Int) x1 (hdL x2 x3 x4) x5 x6 x7 x8 z0) 10 (putL (csum (hdB (hdF n0) x0 (N : Int) x1 (hdL x2 x3 x4) x5 x6 x7 x8 z0)) 2) ++ z1.take n1 = L) :
    Calls Tryz.prog 27 #[.agg #[.int .i64 x0, .int .i64 x1, .bool x2, .bool x3, .int .i64 x4, .int .i64 x5, .int .i64 x6, .int .i64 x7, .int .i64 x8, .slice a0 n0 c0, .slice a1 n1 c1]] w fun e w' => ∃ v : Value, e = .returned v ∧ OwnB w' w.heap.size v L ∧ Below w.heap.size w w' := by
  have HF := hide (encPW_facts w x0 x1 x2 x3 x4 x5 x6 x7 x8 (.slice a0 n0 c0) (.slice a1 n1 c1))
  have CP := hide (fun W => headLength_walk x0 x1 x2 x3 x4 x5 x6 x7 x8 a0 n0 c0 a1 n1 c1 W (by omega))
  have CH := hide (fun W => by have h' := headOf_any x0 x1 x2 x3 x4 x5 x6 x7 x8 a0 n0 c0 a1 n1 c1 W (by omega) m1; rw [hN] at h'; exact h')
  have HA0 := hide h0a
  have HA1 : Hid (Arr w a1 (z1.take n1)) := hide (arr_take h1a n1)
  have HZ0 := hide h0n
  have HZ1 : Hid ((z1.take n1).length = n1) := hide (by rw [List.length_take]; omega)
  have HLq := hide hL
  have hsum : IntKind.i64.wrap (20 + (n0 : Int) + (n1 : Int)) = ((20 + n0 + n1 : Nat) : Int) := by rw [IntKind.wrap_i64]; omega
  have hz1 : (z1.take n1).length ≤ 1048576 := by rw [HZ1.out]; omega
  clear h0a h1a h0n h1n hN hL
  generalize z1.take n1 = zq at *
  obtain ⟨⟨_, _, k0, k1, k2, k3, k4, k5, k6, k7, k8, k9, k10⟩, hc0⟩ := HF.out
  clear hc0
  go_enter Tryz.func27, Tryz.ntmps27
  go_wp2_with fail
  generalize hW : encPW w x0 x1 x2 x3 x4 x5 x6 x7 x8 (.slice a0 n0 c0) (.slice a1 n1 c1) = W at *
  unfold encPW at hW
  rw [hW]
  clear hW
  refine (CP.out _).mono ?_
  rintro e w3 ⟨rfl, hb3⟩
  have HB3 := hide (HF.out.1.next hb3)
  have HC3 := hide (HF.out.2.below hb3 HF.out.2.lt)
  clear k0 k1 k2 k3 k4 k5 k6 k7 k8 k9 k10 HF hb3 CP
  have CM := hide (makeRoom_ok (w.heap.size + 1) 0 (.slice none 0 0) (20 + n0 + n1) w3 HC3.out (by omega))
  go_wp2_with fail
  refine CM.out.mono ?_
  rintro e w4 ⟨rfl, hc4, hr4, hg4⟩
  have hsz0 := HC3.out.lt
  have HB4 := hide (HB3.out.keep (grown_under hg4 (Nat.le_refl _) (by omega)) (by omega))
  have HC4 := hide hc4
  have HR4 := hide hr4
  clear CM hc4 hr4 hg4 HB3 HC3
  generalize w3.heap.size = G at *
  obtain ⟨_, _, k0, k1, k2, k3, k4, k5, k6, k7, k8, k9, k10⟩ := HB4.out
  go_wp2_with fail
  refine (CH.out _).mono ?_
  rintro e w5 ⟨H, rfl, hH, hb5, hh5⟩
  have HB5 := hide (HB4.out.next hb5)
  have HC5 := hide (HC4.out.below hb5 HC4.out.lt)
  have HR5 := hide (HR4.out.below hb5 HR4.out.lt)
  have hGl := HR4.out.lt
  have HH5 : Hid (HdC w5 H _ _ _ _ _ _ _ _ _ _) := hide hh5
  clear k0 k1 k2 k3 k4 k5 k6 k7 k8 k9 k10 HB4 HC4 HR4 hb5 hh5 CH
  have HAG0 : Hid (∀ j, j < z0.length → ∃ b off, a0 = some ⟨b, off, none⟩ ∧ b < w.heap.size + 1) := hide (fun j hj => by obtain ⟨b, off, e, hlt, _⟩ := HA0.out.2 j hj; exact ⟨b, off, e, by omega⟩)
  have HAG1 : Hid (∀ j, j < zq.length → ∃ b off, a1 = some ⟨b, off, none⟩ ∧ b < w.heap.size + 1) := hide (fun j hj => by obtain ⟨b, off, e, hlt, _⟩ := HA1.out.2 j hj; exact ⟨b, off, e, by omega⟩)
  have CU := hide (putHead_ok (w.heap.size + 1) G H (20 + n0 + n1) n0 c0 a0 _ _ _ _ _ _ _ _ _ z0 w5 HC5.out HR5.out HH5.out (by omega) (by omega) (by omega) (by omega) (by omega) HZ0.out (HA0.out.below HB5.out.1 (Nat.le_refl _)) HAG0.out)
  go_wp2_with fail
  refine CU.out.mono ?_
  rintro e w6 ⟨rfl, hc6, hr6, ho6⟩
  have hb6 : Below (w.heap.size + 1) w5 w6 := ho6.below (by intro x hx; simp at hx; omega) (by have := HC5.out.lt; omega)
  have HB6 := hide (HB5.out.keep hb6 (by omega)).1
  have HC6 := hide hc6
  have HLN : Hid (20 + n0 + n1 - 20 - n0 = n1) := hide (by omega)
  rw [HLN.out] at hr6
  have HL : Hid ((splice (hdB (hdF n0) x0 (N : Int) x1 (hdL x2 x3 x4) x5 x6 x7 x8 z0) 10 (putL (csum (hdB (hdF n0) x0 (N : Int) x1 (hdL x2 x3 x4) x5 x6 x7 x8 z0)) 2)).length = 20 + n0) := hide (by rw [length_splice _ _ _ (by rw [putL_len, hdB_len]; omega), hdB_len, HZ0.out])
  have HSP : Hid (∀ ys : List Int, splice (hdB (hdF n0) x0 (N : Int) x1 (hdL x2 x3 x4) x5 x6 x7 x8 z0 ++ ys) 10 (putL (csum (hdB (hdF n0) x0 (N : Int) x1 (hdL x2 x3 x4) x5 x6 x7 x8 z0)) 2) = splice (hdB (hdF n0) x0 (N : Int) x1 (hdL x2 x3 x4) x5 x6 x7 x8 z0) 10 (putL (csum (hdB (hdF n0) x0 (N : Int) x1 (hdL x2 x3 x4) x5 x6 x7 x8 z0)) 2) ++ ys) := hide (fun ys => splice_left _ _ _ _ (by rw [putL_len, hdB_len]; omega))
  rw [HSP.out] at hr6
  have HBD : Hid (∀ z ∈ splice (hdB (hdF n0) x0 (N : Int) x1 (hdL x2 x3 x4) x5 x6 x7 x8 z0) 10 (putL (csum (hdB (hdF n0) x0 (N : Int) x1 (hdL x2 x3 x4) x5 x6 x7 x8 z0)) 2), 0 ≤ z ∧ z ≤ 255) := hide (splice_bd _ _ _ (hdB_bd _ _ _ _ _ _ _ _ _ _ HA0.out.1) (fun z hz => putL_bd _ _ z hz))
  have HR6 := hide hr6
  clear CU hc6 hr6 ho6 hb6 HB5 HC5 HR5 HH5 HSP
  generalize splice (hdB (hdF n0) x0 (N : Int) x1 (hdL x2 x3 x4) x5 x6 x7 x8 z0) 10 (putL (csum (hdB (hdF n0) x0 (N : Int) x1 (hdL x2 x3 x4) x5 x6 x7 x8 z0)) 2) = D at *
  have CB := hide (putBytes_onl (w.heap.size + 1) G (20 + n0 + n1) (20 + n0) n1 n1 c1 a1 D zq w6 HC6.out HR6.out (by omega) HL.out (by omega) (by omega) (Nat.le_refl _) HZ1.out (HA1.out.below HB6.out (Nat.le_refl _)) HAG1.out)
  go_wp2_with fail
  refine CB.out.mono ?_
  rintro e w7 ⟨rfl, hc7, hr7, ho7⟩
  have hb7 : Below (w.heap.size + 1) w6 w7 := ho7.below (by intro x hx; simp at hx; omega) (by have := HC6.out.lt; omega)
  have HB7 := hide (HB6.out.trans (hb7.mono (by omega)))
  have HC7 := hide hc7
  rw [Nat.sub_self, List.replicate_zero, List.append_nil] at hr7
  have HR7 := hide hr7
  clear CB hc7 hr7 ho7 hb7 HB6 HC6 HR6
  obtain ⟨c0', c1', c2', cf⟩ := HC7.out.cells
  have HLL : Hid ((D ++ zq).length = 20 + n0 + n1) := hide (by rw [List.length_append, HL.out, HZ1.out])
  have HO := HR7.out.own (B := w.heap.size) (by omega) (fun z hz => by rcases List.mem_append.1 hz with hz | hz; exact HBD.out z hz; exact HA1.out.1 z hz) (by rw [HLL.out]; omega)
  rw [HLL.out, HLq.out] at HO
  have HO' := hide HO
  clear HO
  go_wp2_with fail
  go_ret
  exact ⟨_, rfl, HO'.out, HB7.out⟩
set_option maxHeartbeats 4000000 in
theorem quoteOf_cut (x0 x1 : Int) (x2 x3 : Bool) (x4 x5 x6 x7 x8 : Int) (a0 : Option Addr) (n0 c0 : Nat) (a1 : Option Addr) (n1 c1 : Nat) (z0 z1 : List Int) (w : World) (h0n : z0.length = n0) (h0a : Arr w a0 z0) (h1n : z1.length = n1) (h1a : Arr w a1 z1) (m0 : n0 ≤ 1000) (m1 : n1 ≤ 1048576) (q1 : n1 ≤ c1) (hK : 8 < n1) (hK2 : (8 : Int) < (n1 : Int)) (N : Nat) (hN : 20 + (n0 : Int) + (n1 : Int) = (N : Int)) (L : List Int) (hL : splice (hdB (hdF n0) x0 (N : Int) x1 (hdL x2 x3 x4) x5 x6 x7 x8 z0) 10 (putL (csum (hdB (hdF n0) x0 (N : Int) x1 (hdL x2 x3 x4) x5 x6 x7 x8 z0)) 2) ++ z1.take 8 = L) :
    Calls Tryz.prog 27 #[.agg #[.int .i64 x0, .int .i64 x1, .bool x2, .bool x3, .int .i64 x4, .int .i64 x5, .int .i64 x6, .int .i64 x7, .int .i64 x8, .slice a0 n0 c0, .slice a1 n1 c1]] w fun e w' => ∃ v : Value, e = .returned v ∧ OwnB w' w.heap.size v L ∧ Below w.heap.size w w' := by
  have HF := hide (encPW_facts w x0 x1 x2 x3 x4 x5 x6 x7 x8 (.slice a0 n0 c0) (.slice a1 n1 c1))
  have CP := hide (fun W => headLength_walk x0 x1 x2 x3 x4 x5 x6 x7 x8 a0 n0 c0 a1 n1 c1 W (by omega))
  have CH := hide (fun W => by have h' := headOf_any x0 x1 x2 x3 x4 x5 x6 x7 x8 a0 n0 c0 a1 n1 c1 W (by omega) m1; rw [hN] at h'; exact h')
  have HA0 := hide h0a
  have HA1 : Hid (Arr w a1 (z1.take 8)) := hide (arr_take h1a 8)
  have HZ0 := hide h0n
  have HZ1 : Hid ((z1.take 8).length = 8) := hide (by rw [List.length_take]; omega)
  have HLq := hide hL
  have hsum : IntKind.i64.wrap (20 + (n0 : Int) + (8 : Int)) = ((20 + n0 + 8 : Nat) : Int) := by rw [IntKind.wrap_i64]; omega
  have hz1 : (z1.take 8).length ≤ 1048576 := by rw [HZ1.out]; omega
  clear h0a h1a h0n h1n hN hL
  generalize z1.take 8 = zq at *
  obtain ⟨⟨_, _, k0, k1, k2, k3, k4, k5, k6, k7, k8, k9, k10⟩, hc0⟩ := HF.out
  clear hc0
  go_enter Tryz.func27, Tryz.ntmps27
  go_wp2_with fail
  generalize hW : encPW w x0 x1 x2 x3 x4 x5 x6 x7 x8 (.slice a0 n0 c0) (.slice a1 n1 c1) = W at *
  unfold encPW at hW
  rw [hW]
  clear hW
  refine (CP.out _).mono ?_
  rintro e w3 ⟨rfl, hb3⟩
  have HB3 := hide (HF.out.1.next hb3)
  have HC3 := hide (HF.out.2.below hb3 HF.out.2.lt)
  clear k0 k1 k2 k3 k4 k5 k6 k7 k8 k9 k10 HF hb3 CP
  have CM := hide (makeRoom_ok (w.heap.size + 1) 0 (.slice none 0 0) (20 + n0 + 8) w3 HC3.out (by omega))
  go_wp2_with fail
  refine CM.out.mono ?_
  rintro e w4 ⟨rfl, hc4, hr4, hg4⟩
  have hsz0 := HC3.out.lt
  have HB4 := hide (HB3.out.keep (grown_under hg4 (Nat.le_refl _) (by omega)) (by omega))
  have HC4 := hide hc4
  have HR4 := hide hr4
  clear CM hc4 hr4 hg4 HB3 HC3
  generalize w3.heap.size = G at *
  obtain ⟨_, _, k0, k1, k2, k3, k4, k5, k6, k7, k8, k9, k10⟩ := HB4.out
  go_wp2_with fail
  refine (CH.out _).mono ?_
  rintro e w5 ⟨H, rfl, hH, hb5, hh5⟩
  have HB5 := hide (HB4.out.next hb5)
  have HC5 := hide (HC4.out.below hb5 HC4.out.lt)
  have HR5 := hide (HR4.out.below hb5 HR4.out.lt)
  have hGl := HR4.out.lt
  have HH5 : Hid (HdC w5 H _ _ _ _ _ _ _ _ _ _) := hide hh5
  clear k0 k1 k2 k3 k4 k5 k6 k7 k8 k9 k10 HB4 HC4 HR4 hb5 hh5 CH
  have HAG0 : Hid (∀ j, j < z0.length → ∃ b off, a0 = some ⟨b, off, none⟩ ∧ b < w.heap.size + 1) := hide (fun j hj => by obtain ⟨b, off, e, hlt, _⟩ := HA0.out.2 j hj; exact ⟨b, off, e, by omega⟩)
  have HAG1 : Hid (∀ j, j < zq.length → ∃ b off, a1 = some ⟨b, off, none⟩ ∧ b < w.heap.size + 1) := hide (fun j hj => by obtain ⟨b, off, e, hlt, _⟩ := HA1.out.2 j hj; exact ⟨b, off, e, by omega⟩)
  have CU := hide (putHead_ok (w.heap.size + 1) G H (20 + n0 + 8) n0 c0 a0 _ _ _ _ _ _ _ _ _ z0 w5 HC5.out HR5.out HH5.out (by omega) (by omega) (by omega) (by omega) (by omega) HZ0.out (HA0.out.below HB5.out.1 (Nat.le_refl _)) HAG0.out)
  go_wp2_with fail
  refine CU.out.mono ?_
  rintro e w6 ⟨rfl, hc6, hr6, ho6⟩
  have hb6 : Below (w.heap.size + 1) w5 w6 := ho6.below (by intro x hx; simp at hx; omega) (by have := HC5.out.lt; omega)
  have HB6 := hide (HB5.out.keep hb6 (by omega)).1
  have HC6 := hide hc6
  have HLN : Hid (20 + n0 + 8 - 20 - n0 = 8) := hide (by omega)
  rw [HLN.out] at hr6
  have HL : Hid ((splice (hdB (hdF n0) x0 (N : Int) x1 (hdL x2 x3 x4) x5 x6 x7 x8 z0) 10 (putL (csum (hdB (hdF n0) x0 (N : Int) x1 (hdL x2 x3 x4) x5 x6 x7 x8 z0)) 2)).length = 20 + n0) := hide (by rw [length_splice _ _ _ (by rw [putL_len, hdB_len]; omega), hdB_len, HZ0.out])
  have HSP : Hid (∀ ys : List Int, splice (hdB (hdF n0) x0 (N : Int) x1 (hdL x2 x3 x4) x5 x6 x7 x8 z0 ++ ys) 10 (putL (csum (hdB (hdF n0) x0 (N : Int) x1 (hdL x2 x3 x4) x5 x6 x7 x8 z0)) 2) = splice (hdB (hdF n0) x0 (N : Int) x1 (hdL x2 x3 x4) x5 x6 x7 x8 z0) 10 (putL (csum (hdB (hdF n0) x0 (N : Int) x1 (hdL x2 x3 x4) x5 x6 x7 x8 z0)) 2) ++ ys) := hide (fun ys => splice_left _ _ _ _ (by rw [putL_len, hdB_len]; omega))
  rw [HSP.out] at hr6
  have HBD : Hid (∀ z ∈ splice (hdB (hdF n0) x0 (N : Int) x1 (hdL x2 x3 x4) x5 x6 x7 x8 z0) 10 (putL (csum (hdB (hdF n0) x0 (N : Int) x1 (hdL x2 x3 x4) x5 x6 x7 x8 z0)) 2), 0 ≤ z ∧ z ≤ 255) := hide (splice_bd _ _ _ (hdB_bd _ _ _ _ _ _ _ _ _ _ HA0.out.1) (fun z hz => putL_bd _ _ z hz))
  have HR6 := hide hr6
  clear CU hc6 hr6 ho6 hb6 HB5 HC5 HR5 HH5 HSP
  generalize splice (hdB (hdF n0) x0 (N : Int) x1 (hdL x2 x3 x4) x5 x6 x7 x8 z0) 10 (putL (csum (hdB (hdF n0) x0 (N : Int) x1 (hdL x2 x3 x4) x5 x6 x7 x8 z0)) 2) = D at *
  have CB := hide (putBytes_onl (w.heap.size + 1) G (20 + n0 + 8) (20 + n0) 8 8 c1 a1 D zq w6 HC6.out HR6.out (by omega) HL.out (by omega) (by omega) (Nat.le_refl _) HZ1.out (HA1.out.below HB6.out (Nat.le_refl _)) HAG1.out)
  go_wp2_with fail
  refine CB.out.mono ?_
  rintro e w7 ⟨rfl, hc7, hr7, ho7⟩
  have hb7 : Below (w.heap.size + 1) w6 w7 := ho7.below (by intro x hx; simp at hx; omega) (by have := HC6.out.lt; omega)
  have HB7 := hide (HB6.out.trans (hb7.mono (by omega)))
  have HC7 := hide hc7
  rw [Nat.sub_self, List.replicate_zero, List.append_nil] at hr7
  have HR7 := hide hr7
  clear CB hc7 hr7 ho7 hb7 HB6 HC6 HR6
  obtain ⟨c0', c1', c2', cf⟩ := HC7.out.cells
  have HLL : Hid ((D ++ zq).length = 20 + n0 + 8) := hide (by rw [List.length_append, HL.out, HZ1.out])
  have HO := HR7.out.own (B := w.heap.size) (by omega) (fun z hz => by rcases List.mem_append.1 hz with hz | hz; exact HBD.out z hz; exact HA1.out.1 z hz) (by rw [HLL.out]; omega)
  rw [HLL.out, HLq.out] at HO
  have HO' := hide HO
  clear HO
  go_wp2_with fail
  go_ret
  exact ⟨_, rfl, HO'.out, HB7.out⟩

theorem or_nat (a b : Nat) (ha : a < 65536) (hb' : b < 65536) : bits .or .i64 (a : Int) (b : Int) = ((a ||| b : Nat) : Int) := by
  have hb : IntKind.i64.bits = 64 := rfl
  have e0 : (2 : Nat) ^ 64 = 18446744073709551616 := by decide
  have e1 : a % 18446744073709551616 = a := Nat.mod_eq_of_lt (by omega)
  have e2 : b % 18446744073709551616 = b := Nat.mod_eq_of_lt (by omega)
  have h2 : a ||| b < 2 ^ 16 := Nat.or_lt_two_pow (by omega) (by omega)
  simp only [bits, BitVec.ofInt_natCast, BitVec.toNat_or, BitVec.toNat_ofNat, hb, e0, e1, e2]
  exact wrap_i64' _ (by omega) (by omega)
theorem or_two_pow (a k x : Nat) (h : x < 2 ^ k) : 2 ^ k * a ||| x = 2 ^ k * a + x := (Nat.two_pow_add_eq_or_of_lt h a).symm
theorem hdF_is (n0 : Nat) (h : n0 ≤ 40) : hdF n0 = 64 + (20 + (n0 : Int)) / 4 := by
  unfold hdF
  have e : (20 + (n0 : Int)) / 4 = (((20 + n0) / 4 : Nat) : Int) := by omega
  rw [e, show (64 : Int) = ((64 : Nat) : Int) from rfl, or_nat _ _ (by omega) (by omega)]
  have h2 := or_two_pow 1 6 ((20 + n0) / 4) (by omega)
  rw [show 2 ^ 6 * 1 = 64 from rfl] at h2
  rw [h2]
  omega
theorem hdL_is (x2 x3 : Bool) (x4 : Int) (h0 : 0 ≤ x4) (h1 : x4 ≤ 65528) : hdL x2 x3 x4 = (if x2 then 16384 else 0) + (if x3 then 8192 else 0) + x4 / 8 := by
  obtain ⟨n, rfl⟩ := Int.eq_ofNat_of_zero_le h0
  have hn : n / 8 < 8192 := by omega
  have e : wrap64 ((n : Int).tdiv 8) = ((n / 8 : Nat) : Int) := by
    rw [show (n : Int).tdiv 8 = ((n / 8 : Nat) : Int) from rfl]
    unfold wrap64
    omega
  have o1 : bits .or .i64 ((n / 8 : Nat) : Int) 16384 = ((16384 + n / 8 : Nat) : Int) := by
    rw [show (16384 : Int) = ((16384 : Nat) : Int) from rfl, or_nat _ _ (by omega) (by omega), Nat.or_comm]
    have h2 := or_two_pow 1 14 (n / 8) (by omega)
    rw [show 2 ^ 14 * 1 = 16384 from rfl] at h2
    rw [h2]
  have o2 : bits .or .i64 ((n / 8 : Nat) : Int) 8192 = ((8192 + n / 8 : Nat) : Int) := by
    rw [show (8192 : Int) = ((8192 : Nat) : Int) from rfl, or_nat _ _ (by omega) (by omega), Nat.or_comm]
    have h2 := or_two_pow 1 13 (n / 8) (by omega)
    rw [show 2 ^ 13 * 1 = 8192 from rfl] at h2
    rw [h2]
  have o3 : bits .or .i64 ((16384 + n / 8 : Nat) : Int) 8192 = ((24576 + n / 8 : Nat) : Int) := by
    rw [show (8192 : Int) = ((8192 : Nat) : Int) from rfl, or_nat _ _ (by omega) (by omega)]
    have h1 := or_two_pow 1 14 (n / 8) (by omega)
    rw [show 2 ^ 14 * 1 = 16384 from rfl] at h1
    have h2 := or_two_pow 3 13 (n / 8) (by omega)
    rw [show 2 ^ 13 * 3 = 24576 from rfl] at h2
    rw [← h1, Nat.or_assoc, Nat.or_comm (n / 8) 8192, ← Nat.or_assoc, show 16384 ||| 8192 = 24576 from rfl, h2]
  unfold hdL
  rw [e, o1]
  cases x2 <;> cases x3
  · simp
  · rw [if_pos rfl, if_neg (by decide), if_neg (by decide), if_pos rfl, o2]; omega
  · rw [if_neg (by decide), if_pos rfl, if_pos rfl, if_neg (by decide)]; omega
  · rw [if_pos rfl, if_pos rfl, if_pos rfl, if_pos rfl, o3]; omega
theorem putL_one (v : Int) (h0 : 0 ≤ v) (h1 : v ≤ 255) : putL v 1 = [v] := by
  unfold putL byteOf
  simp
  omega
theorem putL_two (v : Int) (h0 : 0 ≤ v) (h1 : v ≤ 65535) : putL v 2 = [v / 256, v % 256] := by
  unfold putL byteOf
  simp [List.range_succ]
  omega
theorem hdB_is (x0 x1 : Int) (x2 x3 : Bool) (x4 x5 x6 x7 x8 : Int) (z0 : List Int) (n1 N : Nat) (h : pkOK x0 x1 x4 x5 x6 x7 x8 z0.length = true) (hN : 20 + (z0.length : Int) + (n1 : Int) = (N : Int)) : hdB (hdF z0.length) x0 (N : Int) x1 (hdL x2 x3 x4) x5 x6 x7 x8 z0 = ipH x0 x1 x2 x3 x4 x5 x6 x7 x8 z0 n1 := by
  obtain ⟨b0, b1, b4, b5, b6, b7, b8, l0, l1, l2⟩ := pkOK_parts h
  unfold hdB ipH
  rw [hdF_is _ l0, hdL_is _ _ _ b4.1 b4.2, putL_one _ (by omega) (by omega), putL_one x0 b0.1 b0.2, putL_one x5 b5.1 b5.2, putL_one x6 b6.1 b6.2, hN]
  simp
theorem splice_two (xs : List Int) (a b : Int) (h : 12 ≤ xs.length) : splice xs 10 [a, b] = (xs.set 10 a).set 11 b := by
  have h1 := splice_set xs 11 [] b (by omega)
  have h2 := splice_set xs 10 [b] a (by omega)
  have e : splice xs (11 + 1) [] = xs := by unfold splice; simp
  rw [e] at h1
  rw [← h2, ← h1, List.set_comm _ _ (by omega)]
theorem head_is (x0 x1 : Int) (x2 x3 : Bool) (x4 x5 x6 x7 x8 : Int) (z0 : List Int) (n1 N : Nat) (h : pkOK x0 x1 x4 x5 x6 x7 x8 z0.length = true) (hN : 20 + (z0.length : Int) + (n1 : Int) = (N : Int)) (hz : ∀ z ∈ z0, 0 ≤ z ∧ z ≤ 255) :
    splice (hdB (hdF z0.length) x0 (N : Int) x1 (hdL x2 x3 x4) x5 x6 x7 x8 z0) 10 (putL (csum (hdB (hdF z0.length) x0 (N : Int) x1 (hdL x2 x3 x4) x5 x6 x7 x8 z0)) 2) = ipHead x0 x1 x2 x3 x4 x5 x6 x7 x8 z0 n1 := by
  have hb := hdB_bd (hdF z0.length) x0 (N : Int) x1 (hdL x2 x3 x4) x5 x6 x7 x8 z0 hz
  have hl := hdB_len (hdF z0.length) x0 (N : Int) x1 (hdL x2 x3 x4) x5 x6 x7 x8 z0
  rw [hdB_is x0 x1 x2 x3 x4 x5 x6 x7 x8 z0 n1 N h hN] at hb hl ⊢
  have hc := csum_bd _ hb
  unfold ipHead
  rw [putL_two _ hc.1 hc.2, splice_two _ _ _ (by omega)]
section
set_option maxRecDepth 100000
theorem putNumber_walk (g n : Nat) (v : Int) (e : Nat) (xs0 : List Value) (w : World) (hn : n ≤ 8) (hown : w.ownsRow g e 1 (.slice (some ⟨g, 0, none⟩) n n) n xs0) :
    Calls Tryz.prog 71 #[.slice (some ⟨g, 0, none⟩) n n, .int .i64 v] w fun e' w' => e' = .returned (.tuple #[]) ∧ w.grownBy w' (some g) ∧
      ∃ xs, w'.ownsRow g e 1 (.slice (some ⟨g, 0, none⟩) n n) n xs ∧ ∀ j, j < n → xs[j]? = some (.int .u8 (byteOf v n j)) := by
  have HO := hide hown
  clear hown
  go_enter Tryz.func71, Tryz.ntmps71
  go_wp2_with fail
  go_loopw [7] (fun t w2 => ∃ (k : Nat) (xs : List Value), k ≤ n ∧ t = .int .i64 k ∧ w.grownBy w2 (some g) ∧ Hid (w2.ownsRow g e 1 (.slice (some ⟨g, 0, none⟩) n n) n xs) ∧ Hid (∀ j, n - k ≤ j → j < n → xs[j]? = some (.int .u8 (byteOf v n j)))) (fun t _ => n - (intOf t).toNat)
  case atStart => exact ⟨0, xs0, Nat.zero_le _, rfl, World.grownBy.refl _ _, HO, hide (fun j h1 h2 => absurd h2 (by omega))⟩
  case round =>
    obtain ⟨k, xs, hk, rfl, hb, HO2, HX⟩ := hrel
    by_cases hlt : k < n
    · have hl : xs.length = n := by have := HO2.out.1; omega
      have hf : wr.frozen? ⟨g, n - 1 - k, none⟩ = false := HO2.out.frozenAt _
      obtain ⟨old, hc3⟩ : ∃ old, wr.cell? ⟨g, n - 1 - k, none⟩ = some old := ⟨_, by rw [HO2.out.cellAt _ (by omega)]; exact List.getElem?_eq_getElem (by omega)⟩
      have HL := hide hl
      clear hl
      go_wp2
      have hst := HO2.out.stored (n - 1 - k) (.int .u8 (v / 2 ^ (8 * k) % 256))
      refine ⟨⟨k + 1, _, by omega, by go_num, grown_trans hb hst.2, hide hst.1, hide (fun j h1 h2 => ?_)⟩, by simp [intOf]; omega⟩
      by_cases ej : j = n - 1 - k
      · subst ej
        have hl := HL.out
        rw [List.getElem?_set_self (by omega)]
        unfold byteOf
        rw [show n - 1 - (n - 1 - k) = k by omega]
      · rw [List.getElem?_set_ne (fun h => ej h.symm)]
        exact HX.out j (by omega) h2
    · go_wp2
      go_end0
      exact ⟨rfl, hb, xs, HO2.out, fun j hj => HX.out j (by omega) hj⟩

theorem own4 (w : World) (z : Value) (e : Nat) : ((w.alloc (.cells #[z, z, z, z] e)).alloc (.cells #[z, z, z, z] e)).ownsRow (w.heap.size + 1) e 1 (.slice (some ⟨w.heap.size + 1, 0, none⟩) 4 4) 4 [z, z, z, z] := by
  have h := World.ownsRow_lit (base := w.heap.size + 1) (e := e) (size := 1) (w.alloc (.cells #[z, z, z, z] e)) #[z, z, z, z] 4 (by simp) (by decide) rfl
  simpa using h
theorem heap2 (w : World) (a b : Obj) : ((w.alloc a).alloc b).heap[w.heap.size]? = some a := by
  rw [Below.heap_alloc (w.alloc a) b w.heap.size (by rw [World.size_alloc]; omega)]; exact heap_alloc_new w a
theorem Below.alloc2 (w : World) (a b : Obj) : Below w.heap.size w ((w.alloc a).alloc b) := ((Below.refl _ _).alloc (Nat.le_refl _) _).alloc (by simp) _
set_option maxHeartbeats 400000 in
theorem splitAddr_walk (v : Int) (w : World) :
    Calls Tryz.prog 62 #[.int .i64 v] w fun e w' => e = .returned (.agg #[.int .u8 (byteOf v 4 0), .int .u8 (byteOf v 4 1), .int .u8 (byteOf v 4 2), .int .u8 (byteOf v 4 3)]) ∧ Below w.heap.size w w' := by
  go_enter Tryz.func62, Tryz.ntmps62
  go_wp2_with fail
  refine (putNumber_walk (w.heap.size + 1) 4 v 96 _ _ (by omega) (own4 w _ _)).mono ?_
  rintro e w1 ⟨rfl, hg, xs, hown, hx⟩
  have c0 := (hown.cellAt 0 (by omega)).trans (hx 0 (by omega))
  have c1 := (hown.cellAt 1 (by omega)).trans (hx 1 (by omega))
  have c2 := (hown.cellAt 2 (by omega)).trans (hx 2 (by omega))
  have c3 := (hown.cellAt 3 (by omega)).trans (hx 3 (by omega))
  have hblk : w1.heap[w.heap.size]? = some (.cells #[.int .u8 0, .int .u8 0, .int .u8 0, .int .u8 0] 96) := by
    rw [hg.block w.heap.size (by rw [World.size_alloc, World.size_alloc]; omega) (by simp)]; exact heap2 w _ _
  have hbel : Below w.heap.size w w1 := (Below.alloc2 w _ _).grown hg (by rw [World.size_alloc, World.size_alloc]; omega) (fun k hk => by cases hk; omega)
  have hz : w.heap.size + 1 < w1.heap.size := by have := hg.size; simp at this; omega
  have d : ∀ o, o < 4 → w1.cell? ⟨w.heap.size, o, none⟩ = some (.int .u8 0) := by
    intro o ho
    rw [cell_of_row w1 w.heap.size o _ _ _ hblk]
    match o, ho with
    | 0, _ => rfl
    | 1, _ => rfl
    | 2, _ => rfl
    | 3, _ => rfl
  have f : ∀ o, w1.frozen? ⟨w.heap.size, o, none⟩ = false := fun o => frozen_of_row w1 w.heap.size o _ _ hblk
  have d0 := d 0 (by omega)
  have d1 := d 1 (by omega)
  have d2 := d 2 (by omega)
  have d3 := d 3 (by omega)
  have HO := hide hown
  clear hown hx hg hblk d
  go_wp2
  exact bodyPost_ret (v := .agg #[.int .u8 (byteOf v 4 0), .int .u8 (byteOf v 4 1), .int .u8 (byteOf v 4 2), .int .u8 (byteOf v 4 3)]) (by simp [results, Tryz.results62, go_sem, d0, d1, d2, d3]) rfl ⟨rfl, (((hbel.setCell (Nat.le_refl _) _).setCell (Nat.le_refl _) _).setCell (Nat.le_refl _) _).setCell (Nat.le_refl _) _⟩

theorem eqArr4 (a b c d a' b' c' d' : Int) (w : World) : (Op.equalIn 10000 96 (.agg #[.int .u8 a, .int .u8 b, .int .u8 c, .int .u8 d]) (.agg #[.int .u8 a', .int .u8 b', .int .u8 c', .int .u8 d'])).run Tryz.prog w = .ok (a == a' && (b == b' && (c == c' && d == d'))) w := by
  have u3 := Tryz.underlying5
  have a3 := Tryz.isAgg5
  have z3 := Tryz.sizeOf5
  rw [show (10000 : Nat) = 9999 + 1 from rfl, Op.equalIn]
  simp only [Sem.run_bind, run_underlying Tryz.underlying96, Result.andThen_ok]
  simp only [Std.Legacy.Range.forIn_eq_forIn_range', Std.Legacy.Range.size, Nat.sub_zero, Nat.add_sub_cancel, Nat.div_one, List.range'_succ, List.range'_zero, List.forIn_cons, List.forIn_nil]
  go_simp
  by_cases h1 : a = a' <;> by_cases h2 : b = b' <;> by_cases h3 : c = c' <;> by_cases h4 : d = d' <;> simp [h1, h2, h3, h4]

/-- The kind of an address. -/
def kind (a : Int) : Int :=
  if a = 0 then 1 else if a / 16777216 = 127 then 2 else if a = 4294967295 then 4 else if a / 268435456 = 14 then 3 else if a / 268435456 = 15 then 5 else 6
theorem specKind_yes (a : Int) (w : World) (h : adrB a = true) :
    Calls Tryz.prog 25 #[.int .i64 a] w fun e w' => e = .returned (.int .i64 (kind a)) ∧ w' = w := by
  have hb := adrB_iff.1 h
  go_enter Tryz.func25, Tryz.ntmps25
  go_wp2_with (go_at_call 18; refine (specAddrOK_walk _ _).mono ?_; rintro e w' ⟨rfl, rfl⟩)
  all_goals
    go_ret
    refine ⟨ret_int ?_, rfl⟩
    simp only [beq_iff_eq, beq_eq_false_iff_ne, ne_eq] at *
    unfold kind
    repeat (first | rw [if_pos (by omega)] | rw [if_neg (by omega)])
attribute [local go_sem] eqArr4
theorem kind_yes (a : Int) (w : World) (h : adrB a = true) :
    Calls Tryz.prog 23 #[.int .i64 a] w fun e w' => e = .returned (.int .i64 (kind a)) ∧ Below w.heap.size w w' := by
  have hb := adrB_iff.1 h
  go_enter Tryz.func23, Tryz.ntmps23
  go_wp2_with (go_at_call 26; refine (isAddr_walk _ _).mono ?_; rintro e w' ⟨rfl, rfl⟩)
  refine (splitAddr_walk a _).mono ?_
  rintro e w1 ⟨rfl, hbel⟩
  have e0 : byteOf a 4 0 = a / 16777216 % 256 := by unfold byteOf; simp
  have e1 : byteOf a 4 1 = a / 65536 % 256 := by unfold byteOf; simp
  have e2 : byteOf a 4 2 = a / 256 % 256 := by unfold byteOf; simp
  have e3 : byteOf a 4 3 = a % 256 := by unfold byteOf; simp
  have b0 := byteOf_bd a 4 0
  have E0 := hide e0
  have E1 := hide e1
  have E2 := hide e2
  have E3 := hide e3
  clear e0 e1 e2 e3
  generalize byteOf a 4 0 = x0 at *
  generalize byteOf a 4 1 = x1 at *
  generalize byteOf a 4 2 = x2 at *
  generalize byteOf a 4 3 = x3 at *
  go_wp2
  all_goals
    go_ret
    refine ⟨ret_int ?_, hbel.alloc hbel.size _⟩
    have e0 := E0.out
    have e1 := E1.out
    have e2 := E2.out
    have e3 := E3.out
    simp only [beq_iff_eq, beq_eq_false_iff_ne, ne_eq] at *
    unfold kind
    repeat (first | rw [if_pos (by omega)] | rw [if_neg (by omega)])
end
set_option maxRecDepth 100000
/-- What is wanted of a function of a Packet that answers a bool. -/
def BoolPacketP (f : Nat) (Pre : World → Prop) (x0 : Int) (x1 : Int) (x2 : Bool) (x3 : Bool) (x4 : Int) (x5 : Int) (x6 : Int) (x7 : Int) (x8 : Int) (z0 : List Int) (z1 : List Int) (C : Bool) : Prop :=
  ∀ (a0 : Option Addr) (n0 c0 : Nat) (a1 : Option Addr) (n1 c1 : Nat) (W : World), z0.length = n0 → Arr W a0 z0 → n0 ≤ c0 → n0 ≤ 1048576 → z1.length = n1 → Arr W a1 z1 → n1 ≤ c1 → n1 ≤ 1048576 → Pre W → Calls Tryz.prog f #[.agg #[.int .i64 x0, .int .i64 x1, .bool x2, .bool x3, .int .i64 x4, .int .i64 x5, .int .i64 x6, .int .i64 x7, .int .i64 x8, .slice a0 n0 c0, .slice a1 n1 c1]] W fun e w' => e = .returned (.bool C) ∧ Below W.heap.size W w'
set_option maxRecDepth 100000
set_option maxHeartbeats 2000000 in
theorem specMay_enc (x0 x1 : Int) (x2 x3 : Bool) (x4 x5 x6 x7 x8 : Int) (a0 : Option Addr) (n0 c0 : Nat) (a1 : Option Addr) (n1 c1 : Nat) (C : Int) (w : World) (hC : ¬ C = 0)
   (cE : ∀ W, Below w.heap.size w W → Calls Tryz.prog 20 #[.agg #[.int .i64 x0, .int .i64 x1, .bool x2, .bool x3, .int .i64 x4, .int .i64 x5, .int .i64 x6, .int .i64 x7, .int .i64 x8, .slice a0 n0 c0, .slice a1 n1 c1]] W fun e w' => ∃ v, e = .returned (.tuple #[v, .int .i64 C]) ∧ Below W.heap.size W w') :
    Calls Tryz.prog 7 #[.agg #[.int .i64 x0, .int .i64 x1, .bool x2, .bool x3, .int .i64 x4, .int .i64 x5, .int .i64 x6, .int .i64 x7, .int .i64 x8, .slice a0 n0 c0, .slice a1 n1 c1]] w fun e w' => e = .returned (.bool false) ∧ Below w.heap.size w w' := by
  have HB := hide (BoxPacket.start w x0 x1 x2 x3 x4 x5 x6 x7 x8 (.slice a0 n0 c0) (.slice a1 n1 c1) 24)
  have CE := hide cE
  clear cE
  obtain ⟨_, _, k0, k1, k2, k3, k4, k5, k6, k7, k8, k9, k10⟩ := HB.out
  go_enter Tryz.func7, Tryz.ntmps7
  go_wp2_with fail
  refine (CE.out _ HB.out.1).mono ?_
  rintro e w1 ⟨v, rfl, hb1⟩
  have HB1 := hide (HB.out.next hb1)
  clear k0 k1 k2 k3 k4 k5 k6 k7 k8 k9 k10 hb1
  obtain ⟨_, _, k0, k1, k2, k3, k4, k5, k6, k7, k8, k9, k10⟩ := HB1.out
  go_wp2_with fail
  go_ret
  exact ⟨rfl, HB1.out.1⟩
set_option maxHeartbeats 2000000 in
theorem specMay_off (x0 x1 : Int) (x2 x3 : Bool) (x4 x5 x6 x7 x8 : Int) (a0 : Option Addr) (n0 c0 : Nat) (a1 : Option Addr) (n1 c1 : Nat) (C : Int) (w : World) (hC : C = 0) (h : ¬ x4 = 0)
   (cE : ∀ W, Below w.heap.size w W → Calls Tryz.prog 20 #[.agg #[.int .i64 x0, .int .i64 x1, .bool x2, .bool x3, .int .i64 x4, .int .i64 x5, .int .i64 x6, .int .i64 x7, .int .i64 x8, .slice a0 n0 c0, .slice a1 n1 c1]] W fun e w' => ∃ v, e = .returned (.tuple #[v, .int .i64 C]) ∧ Below W.heap.size W w') :
    Calls Tryz.prog 7 #[.agg #[.int .i64 x0, .int .i64 x1, .bool x2, .bool x3, .int .i64 x4, .int .i64 x5, .int .i64 x6, .int .i64 x7, .int .i64 x8, .slice a0 n0 c0, .slice a1 n1 c1]] w fun e w' => e = .returned (.bool false) ∧ Below w.heap.size w w' := by
  have HB := hide (BoxPacket.start w x0 x1 x2 x3 x4 x5 x6 x7 x8 (.slice a0 n0 c0) (.slice a1 n1 c1) 24)
  have CE := hide cE
  clear cE
  obtain ⟨_, _, k0, k1, k2, k3, k4, k5, k6, k7, k8, k9, k10⟩ := HB.out
  subst hC
  go_enter Tryz.func7, Tryz.ntmps7
  go_wp2_with fail
  refine (CE.out _ HB.out.1).mono ?_
  rintro e w1 ⟨v, rfl, hb1⟩
  have HB1 := hide (HB.out.next hb1)
  clear k0 k1 k2 k3 k4 k5 k6 k7 k8 k9 k10 hb1
  obtain ⟨_, _, k0, k1, k2, k3, k4, k5, k6, k7, k8, k9, k10⟩ := HB1.out
  go_wp2_with fail
  go_ret
  exact ⟨rfl, HB1.out.1⟩
set_option maxHeartbeats 2000000 in
theorem specMay_src (x0 x1 : Int) (x2 x3 : Bool) (x4 x5 x6 x7 x8 : Int) (a0 : Option Addr) (n0 c0 : Nat) (a1 : Option Addr) (n1 c1 : Nat) (C : Int) (w : World) (hC : C = 0) (h : x4 = 0) (h7 : adrB x7 = true) (h8 : adrB x8 = true) (hk : ¬ kind x7 = 6)
   (cE : ∀ W, Below w.heap.size w W → Calls Tryz.prog 20 #[.agg #[.int .i64 x0, .int .i64 x1, .bool x2, .bool x3, .int .i64 x4, .int .i64 x5, .int .i64 x6, .int .i64 x7, .int .i64 x8, .slice a0 n0 c0, .slice a1 n1 c1]] W fun e w' => ∃ v, e = .returned (.tuple #[v, .int .i64 C]) ∧ Below W.heap.size W w') :
    Calls Tryz.prog 7 #[.agg #[.int .i64 x0, .int .i64 x1, .bool x2, .bool x3, .int .i64 x4, .int .i64 x5, .int .i64 x6, .int .i64 x7, .int .i64 x8, .slice a0 n0 c0, .slice a1 n1 c1]] w fun e w' => e = .returned (.bool false) ∧ Below w.heap.size w w' := by
  have HB := hide (BoxPacket.start w x0 x1 x2 x3 x4 x5 x6 x7 x8 (.slice a0 n0 c0) (.slice a1 n1 c1) 24)
  have CE := hide cE
  clear cE
  obtain ⟨_, _, k0, k1, k2, k3, k4, k5, k6, k7, k8, k9, k10⟩ := HB.out
  have CK7 := hide (fun W => specKind_yes x7 W h7)
  have CK8 := hide (fun W => specKind_yes x8 W h8)
  generalize kind x7 = K7 at *
  subst hC h
  clear h7 h8
  go_enter Tryz.func7, Tryz.ntmps7
  go_wp2_with fail
  refine (CE.out _ HB.out.1).mono ?_
  rintro e w1 ⟨v, rfl, hb1⟩
  have HB1 := hide (HB.out.next hb1)
  clear k0 k1 k2 k3 k4 k5 k6 k7 k8 k9 k10 hb1
  obtain ⟨_, _, k0, k1, k2, k3, k4, k5, k6, k7, k8, k9, k10⟩ := HB1.out
  go_wp2_with (first | (go_at_call_of 25 (Value.int IntKind.i64 x7); refine (CK7.out _).mono ?_; rintro e w' ⟨rfl, rfl⟩) | (go_at_call_of 25 (Value.int IntKind.i64 x8); refine (CK8.out _).mono ?_; rintro e w' ⟨rfl, rfl⟩))
  go_ret
  exact ⟨rfl, HB1.out.1⟩
set_option maxHeartbeats 2000000 in
theorem specMay_dst (x0 x1 : Int) (x2 x3 : Bool) (x4 x5 x6 x7 x8 : Int) (a0 : Option Addr) (n0 c0 : Nat) (a1 : Option Addr) (n1 c1 : Nat) (C : Int) (w : World) (hC : C = 0) (h : x4 = 0) (h7 : adrB x7 = true) (h8 : adrB x8 = true) (hk7 : kind x7 = 6) (hk : ¬ kind x8 = 6)
   (cE : ∀ W, Below w.heap.size w W → Calls Tryz.prog 20 #[.agg #[.int .i64 x0, .int .i64 x1, .bool x2, .bool x3, .int .i64 x4, .int .i64 x5, .int .i64 x6, .int .i64 x7, .int .i64 x8, .slice a0 n0 c0, .slice a1 n1 c1]] W fun e w' => ∃ v, e = .returned (.tuple #[v, .int .i64 C]) ∧ Below W.heap.size W w') :
    Calls Tryz.prog 7 #[.agg #[.int .i64 x0, .int .i64 x1, .bool x2, .bool x3, .int .i64 x4, .int .i64 x5, .int .i64 x6, .int .i64 x7, .int .i64 x8, .slice a0 n0 c0, .slice a1 n1 c1]] w fun e w' => e = .returned (.bool false) ∧ Below w.heap.size w w' := by
  have HB := hide (BoxPacket.start w x0 x1 x2 x3 x4 x5 x6 x7 x8 (.slice a0 n0 c0) (.slice a1 n1 c1) 24)
  have CE := hide cE
  clear cE
  obtain ⟨_, _, k0, k1, k2, k3, k4, k5, k6, k7, k8, k9, k10⟩ := HB.out
  have CK7 := hide (fun W => specKind_yes x7 W h7)
  have CK8 := hide (fun W => specKind_yes x8 W h8)
  rw [hk7] at CK7
  generalize kind x8 = K8 at *
  subst hC h
  clear h7 h8 hk7
  go_enter Tryz.func7, Tryz.ntmps7
  go_wp2_with fail
  refine (CE.out _ HB.out.1).mono ?_
  rintro e w1 ⟨v, rfl, hb1⟩
  have HB1 := hide (HB.out.next hb1)
  clear k0 k1 k2 k3 k4 k5 k6 k7 k8 k9 k10 hb1
  obtain ⟨_, _, k0, k1, k2, k3, k4, k5, k6, k7, k8, k9, k10⟩ := HB1.out
  go_wp2_with (first | (go_at_call_of 25 (Value.int IntKind.i64 x7); refine (CK7.out _).mono ?_; rintro e w' ⟨rfl, rfl⟩) | (go_at_call_of 25 (Value.int IntKind.i64 x8); refine (CK8.out _).mono ?_; rintro e w' ⟨rfl, rfl⟩))
  go_ret
  exact ⟨rfl, HB1.out.1⟩
set_option maxHeartbeats 2000000 in
theorem specMay_other (x0 x1 : Int) (x2 x3 : Bool) (x4 x5 x6 x7 x8 : Int) (a0 : Option Addr) (n0 c0 : Nat) (a1 : Option Addr) (n1 c1 : Nat) (C : Int) (w : World) (hC : C = 0) (h : x4 = 0) (h7 : adrB x7 = true) (h8 : adrB x8 = true) (hk7 : kind x7 = 6) (hk8 : kind x8 = 6) (h6 : ¬ x6 = 1)
   (cE : ∀ W, Below w.heap.size w W → Calls Tryz.prog 20 #[.agg #[.int .i64 x0, .int .i64 x1, .bool x2, .bool x3, .int .i64 x4, .int .i64 x5, .int .i64 x6, .int .i64 x7, .int .i64 x8, .slice a0 n0 c0, .slice a1 n1 c1]] W fun e w' => ∃ v, e = .returned (.tuple #[v, .int .i64 C]) ∧ Below W.heap.size W w') :
    Calls Tryz.prog 7 #[.agg #[.int .i64 x0, .int .i64 x1, .bool x2, .bool x3, .int .i64 x4, .int .i64 x5, .int .i64 x6, .int .i64 x7, .int .i64 x8, .slice a0 n0 c0, .slice a1 n1 c1]] w fun e w' => e = .returned (.bool true) ∧ Below w.heap.size w w' := by
  have HB := hide (BoxPacket.start w x0 x1 x2 x3 x4 x5 x6 x7 x8 (.slice a0 n0 c0) (.slice a1 n1 c1) 24)
  have CE := hide cE
  clear cE
  obtain ⟨_, _, k0, k1, k2, k3, k4, k5, k6, k7, k8, k9, k10⟩ := HB.out
  have CK7 := hide (fun W => specKind_yes x7 W h7)
  have CK8 := hide (fun W => specKind_yes x8 W h8)
  rw [hk7] at CK7
  rw [hk8] at CK8
  subst hC h
  clear h7 h8 hk7 hk8
  go_enter Tryz.func7, Tryz.ntmps7
  go_wp2_with fail
  refine (CE.out _ HB.out.1).mono ?_
  rintro e w1 ⟨v, rfl, hb1⟩
  have HB1 := hide (HB.out.next hb1)
  clear k0 k1 k2 k3 k4 k5 k6 k7 k8 k9 k10 hb1
  obtain ⟨_, _, k0, k1, k2, k3, k4, k5, k6, k7, k8, k9, k10⟩ := HB1.out
  go_wp2_with (first | (go_at_call_of 25 (Value.int IntKind.i64 x7); refine (CK7.out _).mono ?_; rintro e w' ⟨rfl, rfl⟩) | (go_at_call_of 25 (Value.int IntKind.i64 x8); refine (CK8.out _).mono ?_; rintro e w' ⟨rfl, rfl⟩))
  go_ret
  exact ⟨rfl, HB1.out.1⟩
set_option maxHeartbeats 2000000 in
theorem specMay_none (x0 x1 : Int) (x2 x3 : Bool) (x4 x5 x6 x7 x8 : Int) (a0 : Option Addr) (n0 c0 : Nat) (a1 : Option Addr) (n1 c1 : Nat) (C : Int) (w : World) (hC : C = 0) (h : x4 = 0) (h7 : adrB x7 = true) (h8 : adrB x8 = true) (hk7 : kind x7 = 6) (hk8 : kind x8 = 6) (h6 : x6 = 1) (h1 : n1 = 0)
   (cE : ∀ W, Below w.heap.size w W → Calls Tryz.prog 20 #[.agg #[.int .i64 x0, .int .i64 x1, .bool x2, .bool x3, .int .i64 x4, .int .i64 x5, .int .i64 x6, .int .i64 x7, .int .i64 x8, .slice a0 n0 c0, .slice a1 n1 c1]] W fun e w' => ∃ v, e = .returned (.tuple #[v, .int .i64 C]) ∧ Below W.heap.size W w') :
    Calls Tryz.prog 7 #[.agg #[.int .i64 x0, .int .i64 x1, .bool x2, .bool x3, .int .i64 x4, .int .i64 x5, .int .i64 x6, .int .i64 x7, .int .i64 x8, .slice a0 n0 c0, .slice a1 n1 c1]] w fun e w' => e = .returned (.bool false) ∧ Below w.heap.size w w' := by
  have HB := hide (BoxPacket.start w x0 x1 x2 x3 x4 x5 x6 x7 x8 (.slice a0 n0 c0) (.slice a1 n1 c1) 24)
  have CE := hide cE
  clear cE
  obtain ⟨_, _, k0, k1, k2, k3, k4, k5, k6, k7, k8, k9, k10⟩ := HB.out
  have CK7 := hide (fun W => specKind_yes x7 W h7)
  have CK8 := hide (fun W => specKind_yes x8 W h8)
  rw [hk7] at CK7
  rw [hk8] at CK8
  subst hC h h6 h1
  clear h7 h8 hk7 hk8
  go_enter Tryz.func7, Tryz.ntmps7
  go_wp2_with fail
  refine (CE.out _ HB.out.1).mono ?_
  rintro e w1 ⟨v, rfl, hb1⟩
  have HB1 := hide (HB.out.next hb1)
  clear k0 k1 k2 k3 k4 k5 k6 k7 k8 k9 k10 hb1
  obtain ⟨_, _, k0, k1, k2, k3, k4, k5, k6, k7, k8, k9, k10⟩ := HB1.out
  go_wp2_with (first | (go_at_call_of 25 (Value.int IntKind.i64 x7); refine (CK7.out _).mono ?_; rintro e w' ⟨rfl, rfl⟩) | (go_at_call_of 25 (Value.int IntKind.i64 x8); refine (CK8.out _).mono ?_; rintro e w' ⟨rfl, rfl⟩))
  go_ret
  exact ⟨rfl, HB1.out.1⟩
set_option maxHeartbeats 2000000 in
theorem specMay_icmp (x0 x1 : Int) (x2 x3 : Bool) (x4 x5 x6 x7 x8 : Int) (a0 : Option Addr) (n0 c0 : Nat) (a1 : Option Addr) (n1 c1 : Nat) (C : Int) (w : World) (hC : C = 0) (h : x4 = 0) (h7 : adrB x7 = true) (h8 : adrB x8 = true) (hk7 : kind x7 = 6) (hk8 : kind x8 = 6) (h6 : x6 = 1) (h1 : 0 < n1) (hm : n1 ≤ 1048576) (b off : Nat) (y : Int) (ha : a1 = some ⟨b, off, none⟩) (hlt : b < w.heap.size) (hc : w.cell? ⟨b, off, none⟩ = some (.int .u8 y))
   (cE : ∀ W, Below w.heap.size w W → Calls Tryz.prog 20 #[.agg #[.int .i64 x0, .int .i64 x1, .bool x2, .bool x3, .int .i64 x4, .int .i64 x5, .int .i64 x6, .int .i64 x7, .int .i64 x8, .slice a0 n0 c0, .slice a1 n1 c1]] W fun e w' => ∃ v, e = .returned (.tuple #[v, .int .i64 C]) ∧ Below W.heap.size W w') :
    Calls Tryz.prog 7 #[.agg #[.int .i64 x0, .int .i64 x1, .bool x2, .bool x3, .int .i64 x4, .int .i64 x5, .int .i64 x6, .int .i64 x7, .int .i64 x8, .slice a0 n0 c0, .slice a1 n1 c1]] w fun e w' => e = .returned (.bool (y == 8 || y == 0)) ∧ Below w.heap.size w w' := by
  have HB := hide (BoxPacket.start w x0 x1 x2 x3 x4 x5 x6 x7 x8 (.slice a0 n0 c0) (.slice a1 n1 c1) 24)
  have CE := hide cE
  clear cE
  obtain ⟨_, _, k0, k1, k2, k3, k4, k5, k6, k7, k8, k9, k10⟩ := HB.out
  have CK7 := hide (fun W => specKind_yes x7 W h7)
  have CK8 := hide (fun W => specKind_yes x8 W h8)
  rw [hk7] at CK7
  rw [hk8] at CK8
  subst hC h h6 ha
  clear h7 h8 hk7 hk8
  by_cases hy : y = 8
  · subst hy
    go_enter Tryz.func7, Tryz.ntmps7
    go_wp2_with fail
    refine (CE.out _ HB.out.1).mono ?_
    rintro e w1 ⟨v, rfl, hb1⟩
    have HB1 := hide (HB.out.next hb1)
    clear k0 k1 k2 k3 k4 k5 k6 k7 k8 k9 k10 hb1
    obtain ⟨_, _, k0, k1, k2, k3, k4, k5, k6, k7, k8, k9, k10⟩ := HB1.out
    have hcc : w1.cell? ⟨b, off, none⟩ = some (.int .u8 8) := by rw [HB1.out.1.cell (p := ⟨b, off, none⟩) hlt]; exact hc
    clear hc
    go_wp2_with (first | (go_at_call_of 25 (Value.int IntKind.i64 x7); refine (CK7.out _).mono ?_; rintro e w' ⟨rfl, rfl⟩) | (go_at_call_of 25 (Value.int IntKind.i64 x8); refine (CK8.out _).mono ?_; rintro e w' ⟨rfl, rfl⟩))
    go_ret
    exact ⟨rfl, HB1.out.1⟩
  · have E : Hid ((y == 8 || y == 0) = (y == 0)) := hide (by rw [beq_eq_false_iff_ne.2 hy, Bool.false_or])
    have hy2 : (y == 8) = false := beq_eq_false_iff_ne.2 hy
    go_enter Tryz.func7, Tryz.ntmps7
    go_wp2_with fail
    refine (CE.out _ HB.out.1).mono ?_
    rintro e w1 ⟨v, rfl, hb1⟩
    have HB1 := hide (HB.out.next hb1)
    clear k0 k1 k2 k3 k4 k5 k6 k7 k8 k9 k10 hb1
    obtain ⟨_, _, k0, k1, k2, k3, k4, k5, k6, k7, k8, k9, k10⟩ := HB1.out
    have hcc : w1.cell? ⟨b, off, none⟩ = some (.int .u8 y) := by rw [HB1.out.1.cell (p := ⟨b, off, none⟩) hlt]; exact hc
    clear hc
    go_wp2_with (first | (go_at_call_of 25 (Value.int IntKind.i64 x7); refine (CK7.out _).mono ?_; rintro e w' ⟨rfl, rfl⟩) | (go_at_call_of 25 (Value.int IntKind.i64 x8); refine (CK8.out _).mono ?_; rintro e w' ⟨rfl, rfl⟩))
    go_ret
    exact ⟨ret_bool E.out.symm, HB1.out.1⟩
/-- What may be complained about. -/
def mayB (x0 x1 x4 x5 x6 x7 x8 : Int) (n0 : Nat) (z1 : List Int) : Bool := decide (ipC x0 x1 x4 x5 x6 x7 x8 n0 z1.length = 0) && decide (x4 = 0) && decide (kind x7 = 6) && decide (kind x8 = 6) && (!decide (x6 = 1) || (decide (0 < z1.length) && (z1.getD 0 0 == 8 || z1.getD 0 0 == 0)))
theorem ipC_adr {x0 x1 x4 x5 x6 x7 x8 : Int} {n0 n1 : Nat} (h : ipC x0 x1 x4 x5 x6 x7 x8 n0 n1 = 0) : pkOK x0 x1 x4 x5 x6 x7 x8 n0 = true ∧ adrB x7 = true ∧ adrB x8 = true := by
  have hok : pkOK x0 x1 x4 x5 x6 x7 x8 n0 = true := by
    cases h' : pkOK x0 x1 x4 x5 x6 x7 x8 n0 with
    | true => rfl
    | false => unfold ipC at h; rw [h'] at h; cases h
  obtain ⟨_, _, _, _, _, h7, h8, _⟩ := pkOK_parts hok
  exact ⟨hok, adrB_iff.2 h7, adrB_iff.2 h8⟩
/-- MayComplain of the model. -/
theorem specMay (x0 x1 : Int) (x2 x3 : Bool) (x4 x5 x6 x7 x8 : Int) (z0 z1 : List Int) (Pre : World → Prop) : BoolPacketP 7 Pre x0 x1 x2 x3 x4 x5 x6 x7 x8 z0 z1 (mayB x0 x1 x4 x5 x6 x7 x8 z0.length z1) := by
  intro a0 n0 c0 a1 n1 c1 W h0n h0a k0 m0 h1n h1a k1 m1 hp
  subst h0n h1n
  have cE := fun (V : World) (hb : Below W.heap.size W V) => (specEncIP x0 x1 x2 x3 x4 x5 x6 x7 x8 z0 z1 (fun _ => True) a0 _ c0 a1 _ c1 V rfl (h0a.below hb (Nat.le_refl _)) k0 m0 rfl (h1a.below hb (Nat.le_refl _)) k1 m1 trivial).mono (R' := fun e w' => ∃ v, e = .returned (.tuple #[v, .int .i64 (ipC x0 x1 x4 x5 x6 x7 x8 z0.length z1.length)]) ∧ Below V.heap.size V w') (by rintro e w' ⟨v, rfl, _, hb'⟩; exact ⟨v, rfl, hb'⟩)
  by_cases hC : ipC x0 x1 x4 x5 x6 x7 x8 z0.length z1.length = 0
  rotate_left
  · rw [show mayB x0 x1 x4 x5 x6 x7 x8 z0.length z1 = false by unfold mayB; rw [decide_eq_false hC]; rfl]
    exact specMay_enc x0 x1 x2 x3 x4 x5 x6 x7 x8 a0 _ c0 a1 _ c1 _ W hC cE
  obtain ⟨_, h7, h8⟩ := ipC_adr hC
  by_cases h4 : x4 = 0
  rotate_left
  · rw [show mayB x0 x1 x4 x5 x6 x7 x8 z0.length z1 = false by unfold mayB; rw [decide_eq_false h4]; simp]
    exact specMay_off x0 x1 x2 x3 x4 x5 x6 x7 x8 a0 _ c0 a1 _ c1 _ W hC h4 cE
  by_cases k7 : kind x7 = 6
  rotate_left
  · rw [show mayB x0 x1 x4 x5 x6 x7 x8 z0.length z1 = false by unfold mayB; rw [decide_eq_false k7]; simp]
    exact specMay_src x0 x1 x2 x3 x4 x5 x6 x7 x8 a0 _ c0 a1 _ c1 _ W hC h4 h7 h8 k7 cE
  by_cases k8 : kind x8 = 6
  rotate_left
  · rw [show mayB x0 x1 x4 x5 x6 x7 x8 z0.length z1 = false by unfold mayB; rw [decide_eq_false k8]; simp]
    exact specMay_dst x0 x1 x2 x3 x4 x5 x6 x7 x8 a0 _ c0 a1 _ c1 _ W hC h4 h7 h8 k7 k8 cE
  have e0 : mayB x0 x1 x4 x5 x6 x7 x8 z0.length z1 = (!decide (x6 = 1) || (decide (0 < z1.length) && (z1.getD 0 0 == 8 || z1.getD 0 0 == 0))) := by unfold mayB; rw [decide_eq_true hC, decide_eq_true h4, decide_eq_true k7, decide_eq_true k8]; rfl
  rw [e0]
  by_cases h6 : x6 = 1
  rotate_left
  · rw [decide_eq_false h6]
    exact specMay_other x0 x1 x2 x3 x4 x5 x6 x7 x8 a0 _ c0 a1 _ c1 _ W hC h4 h7 h8 k7 k8 h6 cE
  rw [decide_eq_true h6]
  by_cases hz : z1.length = 0
  · rw [decide_eq_false (by omega)]
    exact specMay_none x0 x1 x2 x3 x4 x5 x6 x7 x8 a0 _ c0 a1 _ c1 _ W hC h4 h7 h8 k7 k8 h6 hz cE
  · rw [decide_eq_true (show 0 < z1.length by omega)]
    obtain ⟨b, off, ha, hlt, hc⟩ := h1a.2 0 (by omega)
    exact specMay_icmp x0 x1 x2 x3 x4 x5 x6 x7 x8 a0 _ c0 a1 _ c1 _ W hC h4 h7 h8 k7 k8 h6 (by omega) m1 b off _ ha hlt hc cE
set_option maxRecDepth 100000
theorem aboutN_is (y : Int) : (aboutN y == 1) = (y == 8 || y == 0) := by
  unfold aboutN
  by_cases h8 : y = 8
  · subst h8; rfl
  by_cases h0 : y = 0
  · subst h0; rfl
  rw [if_neg h8, if_neg h0, beq_eq_false_iff_ne.2 h8, beq_eq_false_iff_ne.2 h0]
  by_cases h3 : y = 3
  · subst h3; rfl
  by_cases h11 : y = 11
  · subst h11; rfl
  rw [if_neg h3, if_neg h11]
  rfl
set_option maxHeartbeats 2000000 in
theorem isEcho_none (a1 : Option Addr) (c1 : Nat) (w : World) : Calls Tryz.prog 63 #[.slice a1 0 c1] w fun e w' => e = .returned (.bool false) ∧ Below w.heap.size w w' := by
  go_enter Tryz.func63, Tryz.ntmps63
  go_wp2
  go_ret
  exact ⟨rfl, Below.refl _ _⟩
set_option maxHeartbeats 2000000 in
theorem isEcho_some (n1 c1 : Nat) (w : World) (h1 : 0 < n1) (hm : n1 ≤ 1048576) (b off : Nat) (y : Int) (hlt : b < w.heap.size) (hc : w.cell? ⟨b, off, none⟩ = some (.int .u8 y)) (hy0 : 0 ≤ y) (hy1 : y ≤ 255) :
    Calls Tryz.prog 63 #[.slice (some ⟨b, off, none⟩) n1 c1] w fun e w' => e = .returned (.bool (y == 8 || y == 0)) ∧ Below w.heap.size w w' := by
  have CM := hide (fun W => messageOf_walk y 0 0 none 0 0 W)
  have CA := hide (fun W => aboutWhat_walk y 0 0 (.slice none 0 0) W)
  have E := hide (aboutN_is y)
  have hw : IntKind.i64.wrap y = y := by rw [IntKind.wrap_i64]; omega
  go_enter Tryz.func63, Tryz.ntmps63
  go_wp2_with fail
  refine (CM.out _).mono ?_
  rintro e w1 ⟨rfl, hb1⟩
  have HB1 := hide hb1
  clear hb1 hc
  go_wp2_with fail
  refine (CA.out _).mono ?_
  rintro e w2 ⟨rfl, hw2⟩
  rw [hw2]
  clear hw2
  go_wp2_with fail
  go_ret
  exact ⟨ret_bool E.out, HB1.out⟩
theorem isEcho_walk (a1 : Option Addr) (n1 c1 : Nat) (z1 : List Int) (w : World) (h1n : z1.length = n1) (h1a : Arr w a1 z1) (m1 : n1 ≤ 1048576) : Calls Tryz.prog 63 #[.slice a1 n1 c1] w fun e w' => e = .returned (.bool (decide (0 < z1.length) && (z1.getD 0 0 == 8 || z1.getD 0 0 == 0))) ∧ Below w.heap.size w w' := by
  by_cases h1 : n1 = 0
  · subst h1
    rw [decide_eq_false (by omega : ¬ 0 < z1.length)]
    exact isEcho_none a1 c1 w
  · obtain ⟨b, off, e, hlt, hc⟩ := h1a.2 0 (by omega)
    rw [decide_eq_true (by omega : 0 < z1.length)]
    have hy := h1a.1 (z1.getD 0 0) (by rw [List.getD_eq_getElem?_getD, List.getElem?_eq_getElem (by omega : 0 < z1.length)]; exact List.getElem_mem _)
    subst e
    exact isEcho_some n1 c1 w (by omega) m1 b off (z1.getD 0 0) hlt hc hy.1 hy.2
set_option maxHeartbeats 2000000 in
theorem mayAnswer_other (x0 x1 : Int) (x2 x3 : Bool) (x4 x5 x6 x7 x8 : Int) (a0 : Option Addr) (n0 c0 : Nat) (a1 : Option Addr) (n1 c1 : Nat) (w : World) (h6 : ¬ x6 = 1) :
    Calls Tryz.prog 24 #[.agg #[.int .i64 x0, .int .i64 x1, .bool x2, .bool x3, .int .i64 x4, .int .i64 x5, .int .i64 x6, .int .i64 x7, .int .i64 x8, .slice a0 n0 c0, .slice a1 n1 c1]] w fun e w' => e = .returned (.bool true) ∧ Below w.heap.size w w' := by
  have HB := hide (BoxPacket.start w x0 x1 x2 x3 x4 x5 x6 x7 x8 (.slice a0 n0 c0) (.slice a1 n1 c1) 24)
  obtain ⟨_, _, k0, k1, k2, k3, k4, k5, k6, k7, k8, k9, k10⟩ := HB.out
  have h6b : (x6 != 1) = true := by simpa using h6
  go_enter Tryz.func24, Tryz.ntmps24
  go_wp2
  go_ret
  exact ⟨rfl, HB.out.1⟩
set_option maxHeartbeats 2000000 in
theorem mayAnswer_icmp (x0 x1 : Int) (x2 x3 : Bool) (x4 x5 x6 x7 x8 : Int) (a0 : Option Addr) (n0 c0 : Nat) (a1 : Option Addr) (n1 c1 : Nat) (w : World) (h6 : x6 = 1) (R : Bool) (cE : ∀ W, Below w.heap.size w W → Calls Tryz.prog 63 #[.slice a1 n1 c1] W fun e w' => e = .returned (.bool R) ∧ Below W.heap.size W w') :
    Calls Tryz.prog 24 #[.agg #[.int .i64 x0, .int .i64 x1, .bool x2, .bool x3, .int .i64 x4, .int .i64 x5, .int .i64 x6, .int .i64 x7, .int .i64 x8, .slice a0 n0 c0, .slice a1 n1 c1]] w fun e w' => e = .returned (.bool R) ∧ Below w.heap.size w w' := by
  subst h6
  have HB := hide (BoxPacket.start w x0 x1 x2 x3 x4 x5 1 x7 x8 (.slice a0 n0 c0) (.slice a1 n1 c1) 24)
  obtain ⟨_, _, k0, k1, k2, k3, k4, k5, k6, k7, k8, k9, k10⟩ := HB.out
  have CE := hide cE
  clear cE
  go_enter Tryz.func24, Tryz.ntmps24
  go_wp2_with fail
  refine (CE.out _ HB.out.1).mono ?_
  rintro e w1 ⟨rfl, hb1⟩
  have HB1 := hide (HB.out.next hb1)
  clear k0 k1 k2 k3 k4 k5 k6 k7 k8 k9 k10 hb1
  go_wp2_with fail
  go_ret
  exact ⟨rfl, HB1.out.1⟩
theorem mayAnswer_walk (x0 x1 : Int) (x2 x3 : Bool) (x4 x5 x6 x7 x8 : Int) (a0 : Option Addr) (n0 c0 : Nat) (a1 : Option Addr) (n1 c1 : Nat) (z1 : List Int) (w : World) (h1n : z1.length = n1) (h1a : Arr w a1 z1) (m1 : n1 ≤ 1048576) :
    Calls Tryz.prog 24 #[.agg #[.int .i64 x0, .int .i64 x1, .bool x2, .bool x3, .int .i64 x4, .int .i64 x5, .int .i64 x6, .int .i64 x7, .int .i64 x8, .slice a0 n0 c0, .slice a1 n1 c1]] w fun e w' => e = .returned (.bool (!decide (x6 = 1) || (decide (0 < z1.length) && (z1.getD 0 0 == 8 || z1.getD 0 0 == 0)))) ∧ Below w.heap.size w w' := by
  by_cases h6 : x6 = 1
  · rw [decide_eq_true h6]
    exact mayAnswer_icmp x0 x1 x2 x3 x4 x5 x6 x7 x8 a0 n0 c0 a1 n1 c1 w h6 _ (fun W hb => isEcho_walk a1 n1 c1 z1 W h1n (h1a.below hb (Nat.le_refl _)) m1)
  · rw [decide_eq_false h6]
    exact mayAnswer_other x0 x1 x2 x3 x4 x5 x6 x7 x8 a0 n0 c0 a1 n1 c1 w h6
set_option maxHeartbeats 4000000 in
theorem mayI_enc (x0 x1 : Int) (x2 x3 : Bool) (x4 x5 x6 x7 x8 : Int) (a0 : Option Addr) (n0 c0 : Nat) (a1 : Option Addr) (n1 c1 : Nat) (w : World) (m0 : n0 ≤ 1048576) (m1 : n1 ≤ 1048576) (hE : encB x0 x1 x4 x5 x6 x7 x8 n0 n1 = false) :
    Calls Tryz.prog 6 #[.agg #[.int .i64 x0, .int .i64 x1, .bool x2, .bool x3, .int .i64 x4, .int .i64 x5, .int .i64 x6, .int .i64 x7, .int .i64 x8, .slice a0 n0 c0, .slice a1 n1 c1]] w fun e w' => e = .returned (.bool false) ∧ Below w.heap.size w w' := by
  have HB := hide (BoxPacket.start w x0 x1 x2 x3 x4 x5 x6 x7 x8 (.slice a0 n0 c0) (.slice a1 n1 c1) 24)
  obtain ⟨_, _, k0, k1, k2, k3, k4, k5, k6, k7, k8, k9, k10⟩ := HB.out
  have CE := hide (fun W => by have h' := encodes_walk x0 x1 x2 x3 x4 x5 x6 x7 x8 a0 n0 c0 a1 n1 c1 W m0 m1; rw [hE] at h'; exact h')
  clear hE
  go_enter Tryz.func6, Tryz.ntmps6
  go_wp2_with fail
  refine (CE.out _).mono ?_
  rintro e w1 ⟨rfl, hb1⟩
  have HB1 := hide (HB.out.next hb1)
  clear k0 k1 k2 k3 k4 k5 k6 k7 k8 k9 k10 hb1 HB CE
  obtain ⟨_, _, k0, k1, k2, k3, k4, k5, k6, k7, k8, k9, k10⟩ := HB1.out
  go_wp2_with fail
  go_ret
  exact ⟨rfl, HB1.out.1⟩
set_option maxHeartbeats 4000000 in
theorem mayI_off (x0 x1 : Int) (x2 x3 : Bool) (x4 x5 x6 x7 x8 : Int) (a0 : Option Addr) (n0 c0 : Nat) (a1 : Option Addr) (n1 c1 : Nat) (w : World) (m0 : n0 ≤ 1048576) (m1 : n1 ≤ 1048576) (hE : encB x0 x1 x4 x5 x6 x7 x8 n0 n1 = true) (h4 : ¬ x4 = 0) :
    Calls Tryz.prog 6 #[.agg #[.int .i64 x0, .int .i64 x1, .bool x2, .bool x3, .int .i64 x4, .int .i64 x5, .int .i64 x6, .int .i64 x7, .int .i64 x8, .slice a0 n0 c0, .slice a1 n1 c1]] w fun e w' => e = .returned (.bool false) ∧ Below w.heap.size w w' := by
  have HB := hide (BoxPacket.start w x0 x1 x2 x3 x4 x5 x6 x7 x8 (.slice a0 n0 c0) (.slice a1 n1 c1) 24)
  obtain ⟨_, _, k0, k1, k2, k3, k4, k5, k6, k7, k8, k9, k10⟩ := HB.out
  have CE := hide (fun W => by have h' := encodes_walk x0 x1 x2 x3 x4 x5 x6 x7 x8 a0 n0 c0 a1 n1 c1 W m0 m1; rw [hE] at h'; exact h')
  clear hE
  have h4b : (x4 == 0) = false := beq_eq_false_iff_ne.2 h4
  clear h4
  go_enter Tryz.func6, Tryz.ntmps6
  go_wp2_with fail
  refine (CE.out _).mono ?_
  rintro e w1 ⟨rfl, hb1⟩
  have HB1 := hide (HB.out.next hb1)
  clear k0 k1 k2 k3 k4 k5 k6 k7 k8 k9 k10 hb1 HB CE
  obtain ⟨_, _, k0, k1, k2, k3, k4, k5, k6, k7, k8, k9, k10⟩ := HB1.out
  go_wp2_with fail
  go_ret
  exact ⟨rfl, HB1.out.1⟩
set_option maxHeartbeats 4000000 in
theorem mayI_src (x0 x1 : Int) (x2 x3 : Bool) (x4 x5 x6 x7 x8 : Int) (a0 : Option Addr) (n0 c0 : Nat) (a1 : Option Addr) (n1 c1 : Nat) (w : World) (m0 : n0 ≤ 1048576) (m1 : n1 ≤ 1048576) (hE : encB x0 x1 x4 x5 x6 x7 x8 n0 n1 = true) (h4 : (x4 == 0) = true) (h7 : adrB x7 = true) (hk7 : (kind x7 == 6) = false) :
    Calls Tryz.prog 6 #[.agg #[.int .i64 x0, .int .i64 x1, .bool x2, .bool x3, .int .i64 x4, .int .i64 x5, .int .i64 x6, .int .i64 x7, .int .i64 x8, .slice a0 n0 c0, .slice a1 n1 c1]] w fun e w' => e = .returned (.bool false) ∧ Below w.heap.size w w' := by
  have HB := hide (BoxPacket.start w x0 x1 x2 x3 x4 x5 x6 x7 x8 (.slice a0 n0 c0) (.slice a1 n1 c1) 24)
  obtain ⟨_, _, k0, k1, k2, k3, k4, k5, k6, k7, k8, k9, k10⟩ := HB.out
  have CE := hide (fun W => by have h' := encodes_walk x0 x1 x2 x3 x4 x5 x6 x7 x8 a0 n0 c0 a1 n1 c1 W m0 m1; rw [hE] at h'; exact h')
  clear hE
  have CK7 := hide (fun W => kind_yes x7 W h7)
  clear h7
  go_enter Tryz.func6, Tryz.ntmps6
  go_wp2_with fail
  refine (CE.out _).mono ?_
  rintro e w1 ⟨rfl, hb1⟩
  have HB1 := hide (HB.out.next hb1)
  clear k0 k1 k2 k3 k4 k5 k6 k7 k8 k9 k10 hb1 HB CE
  obtain ⟨_, _, k0, k1, k2, k3, k4, k5, k6, k7, k8, k9, k10⟩ := HB1.out
  go_wp2_with fail
  refine (CK7.out _).mono ?_
  rintro e w2 ⟨rfl, hb1⟩
  have HB2 := hide (HB1.out.next hb1)
  clear k0 k1 k2 k3 k4 k5 k6 k7 k8 k9 k10 hb1 HB1 CK7
  obtain ⟨_, _, k0, k1, k2, k3, k4, k5, k6, k7, k8, k9, k10⟩ := HB2.out
  go_wp2_with fail
  go_ret
  exact ⟨rfl, HB2.out.1⟩
set_option maxHeartbeats 4000000 in
theorem mayI_dst (x0 x1 : Int) (x2 x3 : Bool) (x4 x5 x6 x7 x8 : Int) (a0 : Option Addr) (n0 c0 : Nat) (a1 : Option Addr) (n1 c1 : Nat) (w : World) (m0 : n0 ≤ 1048576) (m1 : n1 ≤ 1048576) (hE : encB x0 x1 x4 x5 x6 x7 x8 n0 n1 = true) (h4 : (x4 == 0) = true) (h7 : adrB x7 = true) (hk7 : (kind x7 == 6) = true) (h8 : adrB x8 = true) (hk8 : (kind x8 == 6) = false) :
    Calls Tryz.prog 6 #[.agg #[.int .i64 x0, .int .i64 x1, .bool x2, .bool x3, .int .i64 x4, .int .i64 x5, .int .i64 x6, .int .i64 x7, .int .i64 x8, .slice a0 n0 c0, .slice a1 n1 c1]] w fun e w' => e = .returned (.bool false) ∧ Below w.heap.size w w' := by
  have HB := hide (BoxPacket.start w x0 x1 x2 x3 x4 x5 x6 x7 x8 (.slice a0 n0 c0) (.slice a1 n1 c1) 24)
  obtain ⟨_, _, k0, k1, k2, k3, k4, k5, k6, k7, k8, k9, k10⟩ := HB.out
  have CE := hide (fun W => by have h' := encodes_walk x0 x1 x2 x3 x4 x5 x6 x7 x8 a0 n0 c0 a1 n1 c1 W m0 m1; rw [hE] at h'; exact h')
  clear hE
  have CK7 := hide (fun W => kind_yes x7 W h7)
  clear h7
  have CK8 := hide (fun W => kind_yes x8 W h8)
  clear h8
  go_enter Tryz.func6, Tryz.ntmps6
  go_wp2_with fail
  refine (CE.out _).mono ?_
  rintro e w1 ⟨rfl, hb1⟩
  have HB1 := hide (HB.out.next hb1)
  clear k0 k1 k2 k3 k4 k5 k6 k7 k8 k9 k10 hb1 HB CE
  obtain ⟨_, _, k0, k1, k2, k3, k4, k5, k6, k7, k8, k9, k10⟩ := HB1.out
  go_wp2_with fail
  refine (CK7.out _).mono ?_
  rintro e w2 ⟨rfl, hb1⟩
  have HB2 := hide (HB1.out.next hb1)
  clear k0 k1 k2 k3 k4 k5 k6 k7 k8 k9 k10 hb1 HB1 CK7
  obtain ⟨_, _, k0, k1, k2, k3, k4, k5, k6, k7, k8, k9, k10⟩ := HB2.out
  go_wp2_with fail
  refine (CK8.out _).mono ?_
  rintro e w3 ⟨rfl, hb1⟩
  have HB3 := hide (HB2.out.next hb1)
  clear k0 k1 k2 k3 k4 k5 k6 k7 k8 k9 k10 hb1 HB2 CK8
  obtain ⟨_, _, k0, k1, k2, k3, k4, k5, k6, k7, k8, k9, k10⟩ := HB3.out
  go_wp2_with fail
  go_ret
  exact ⟨rfl, HB3.out.1⟩
set_option maxHeartbeats 4000000 in
theorem mayI_ans (x0 x1 : Int) (x2 x3 : Bool) (x4 x5 x6 x7 x8 : Int) (a0 : Option Addr) (n0 c0 : Nat) (a1 : Option Addr) (n1 c1 : Nat) (w : World) (m0 : n0 ≤ 1048576) (m1 : n1 ≤ 1048576) (hE : encB x0 x1 x4 x5 x6 x7 x8 n0 n1 = true) (h4 : (x4 == 0) = true) (h7 : adrB x7 = true) (hk7 : (kind x7 == 6) = true) (h8 : adrB x8 = true) (hk8 : (kind x8 == 6) = true) (R : Bool) (cM : ∀ W, Below w.heap.size w W → Calls Tryz.prog 24 #[.agg #[.int .i64 x0, .int .i64 x1, .bool x2, .bool x3, .int .i64 x4, .int .i64 x5, .int .i64 x6, .int .i64 x7, .int .i64 x8, .slice a0 n0 c0, .slice a1 n1 c1]] W fun e w' => e = .returned (.bool R) ∧ Below W.heap.size W w') :
    Calls Tryz.prog 6 #[.agg #[.int .i64 x0, .int .i64 x1, .bool x2, .bool x3, .int .i64 x4, .int .i64 x5, .int .i64 x6, .int .i64 x7, .int .i64 x8, .slice a0 n0 c0, .slice a1 n1 c1]] w fun e w' => e = .returned (.bool R) ∧ Below w.heap.size w w' := by
  have HB := hide (BoxPacket.start w x0 x1 x2 x3 x4 x5 x6 x7 x8 (.slice a0 n0 c0) (.slice a1 n1 c1) 24)
  obtain ⟨_, _, k0, k1, k2, k3, k4, k5, k6, k7, k8, k9, k10⟩ := HB.out
  have CE := hide (fun W => by have h' := encodes_walk x0 x1 x2 x3 x4 x5 x6 x7 x8 a0 n0 c0 a1 n1 c1 W m0 m1; rw [hE] at h'; exact h')
  clear hE
  have CK7 := hide (fun W => kind_yes x7 W h7)
  clear h7
  have CK8 := hide (fun W => kind_yes x8 W h8)
  clear h8
  have CM := hide cM
  clear cM
  go_enter Tryz.func6, Tryz.ntmps6
  go_wp2_with fail
  refine (CE.out _).mono ?_
  rintro e w1 ⟨rfl, hb1⟩
  have HB1 := hide (HB.out.next hb1)
  clear k0 k1 k2 k3 k4 k5 k6 k7 k8 k9 k10 hb1 HB CE
  obtain ⟨_, _, k0, k1, k2, k3, k4, k5, k6, k7, k8, k9, k10⟩ := HB1.out
  go_wp2_with fail
  refine (CK7.out _).mono ?_
  rintro e w2 ⟨rfl, hb1⟩
  have HB2 := hide (HB1.out.next hb1)
  clear k0 k1 k2 k3 k4 k5 k6 k7 k8 k9 k10 hb1 HB1 CK7
  obtain ⟨_, _, k0, k1, k2, k3, k4, k5, k6, k7, k8, k9, k10⟩ := HB2.out
  go_wp2_with fail
  refine (CK8.out _).mono ?_
  rintro e w3 ⟨rfl, hb1⟩
  have HB3 := hide (HB2.out.next hb1)
  clear k0 k1 k2 k3 k4 k5 k6 k7 k8 k9 k10 hb1 HB2 CK8
  obtain ⟨_, _, k0, k1, k2, k3, k4, k5, k6, k7, k8, k9, k10⟩ := HB3.out
  go_wp2_with fail
  refine (CM.out _ HB3.out.1).mono ?_
  rintro e w4 ⟨rfl, hb1⟩
  have HB4 := hide (HB3.out.next hb1)
  clear k0 k1 k2 k3 k4 k5 k6 k7 k8 k9 k10 hb1 HB3 CM
  go_wp2_with fail
  go_ret
  exact ⟨rfl, HB4.out.1⟩
theorem encB_of' (x0 x1 x4 x5 x6 x7 x8 : Int) (n0 n1 : Nat) : encB x0 x1 x4 x5 x6 x7 x8 n0 n1 = decide (ipC x0 x1 x4 x5 x6 x7 x8 n0 n1 = 0) := by
  unfold encB ipC fitB
  cases pkOK x0 x1 x4 x5 x6 x7 x8 n0 with
  | false => rfl
  | true =>
    rw [Bool.true_and, if_pos rfl]
    by_cases h : 65535 < 20 + (n0 : Int) + (n1 : Int) ∨ 65535 < x4 + (n1 : Int)
    · rw [if_pos h]
      rcases h with h | h
      · rw [decide_eq_false (by omega)]; rfl
      · rw [decide_eq_false (show ¬ x4 + (n1 : Int) ≤ 65535 by omega), Bool.and_false]; rfl
    · rw [if_neg h, decide_eq_true (show 20 + (n0 : Int) + (n1 : Int) ≤ 65535 by omega), decide_eq_true (show x4 + (n1 : Int) ≤ 65535 by omega)]; rfl
/-- MayComplain of the program. -/
theorem implMay (x0 x1 : Int) (x2 x3 : Bool) (x4 x5 x6 x7 x8 : Int) (z0 z1 : List Int) (Pre : World → Prop) : BoolPacketP 6 Pre x0 x1 x2 x3 x4 x5 x6 x7 x8 z0 z1 (mayB x0 x1 x4 x5 x6 x7 x8 z0.length z1) := by
  intro a0 n0 c0 a1 n1 c1 W h0n h0a k0 m0 h1n h1a k1 m1 hp
  subst h0n h1n
  by_cases hC : ipC x0 x1 x4 x5 x6 x7 x8 z0.length z1.length = 0
  · have hE : encB x0 x1 x4 x5 x6 x7 x8 z0.length z1.length = true := by rw [encB_of', decide_eq_true hC]
    obtain ⟨_, h7, h8⟩ := ipC_adr hC
    by_cases h4 : x4 = 0
    · have h4b : (x4 == 0) = true := beq_iff_eq.2 h4
      by_cases h7k : kind x7 = 6
      · by_cases h8k : kind x8 = 6
        · rw [show mayB x0 x1 x4 x5 x6 x7 x8 z0.length z1 = (!decide (x6 = 1) || (decide (0 < z1.length) && (z1.getD 0 0 == 8 || z1.getD 0 0 == 0))) by unfold mayB; rw [decide_eq_true hC, decide_eq_true h4, decide_eq_true h7k, decide_eq_true h8k]; rfl]
          exact mayI_ans x0 x1 x2 x3 x4 x5 x6 x7 x8 a0 _ c0 a1 _ c1 W m0 m1 hE h4b h7 (beq_iff_eq.2 h7k) h8 (beq_iff_eq.2 h8k) _ (fun V hb => mayAnswer_walk x0 x1 x2 x3 x4 x5 x6 x7 x8 a0 _ c0 a1 _ c1 z1 V rfl (h1a.below hb (Nat.le_refl _)) m1)
        · rw [show mayB x0 x1 x4 x5 x6 x7 x8 z0.length z1 = false by unfold mayB; rw [decide_eq_false h8k]; simp]
          exact mayI_dst x0 x1 x2 x3 x4 x5 x6 x7 x8 a0 _ c0 a1 _ c1 W m0 m1 hE h4b h7 (beq_iff_eq.2 h7k) h8 (beq_eq_false_iff_ne.2 h8k)
      · rw [show mayB x0 x1 x4 x5 x6 x7 x8 z0.length z1 = false by unfold mayB; rw [decide_eq_false h7k]; simp]
        exact mayI_src x0 x1 x2 x3 x4 x5 x6 x7 x8 a0 _ c0 a1 _ c1 W m0 m1 hE h4b h7 (beq_eq_false_iff_ne.2 h7k)
    · rw [show mayB x0 x1 x4 x5 x6 x7 x8 z0.length z1 = false by unfold mayB; rw [decide_eq_false h4]; simp]
      exact mayI_off x0 x1 x2 x3 x4 x5 x6 x7 x8 a0 _ c0 a1 _ c1 W m0 m1 hE h4
  · rw [show mayB x0 x1 x4 x5 x6 x7 x8 z0.length z1 = false by unfold mayB; rw [decide_eq_false hC]; rfl]
    exact mayI_enc x0 x1 x2 x3 x4 x5 x6 x7 x8 a0 _ c0 a1 _ c1 W m0 m1 (by rw [encB_of', decide_eq_false hC])
set_option maxRecDepth 100000
/-- Cells of numbers. -/
def ival (zs : List Int) : List Value := zs.map (Value.int .i64)
theorem ival_len (zs : List Int) : (ival zs).length = zs.length := by unfold ival; rw [List.length_map]
theorem ival_get (zs : List Int) (j : Nat) (h : j < zs.length) : (ival zs)[j]? = some (.int .i64 (zs.getD j 0)) := by
  unfold ival; rw [List.getElem?_map, List.getElem?_eq_getElem h, List.getD_eq_getElem?_getD, List.getElem?_eq_getElem h]; rfl
/-- The numbers that lie from a on. -/
def ArrI (w : World) (a : Option Addr) (zs : List Int) : Prop :=
  ∀ j, j < zs.length → ∃ b off, a = some ⟨b, off, none⟩ ∧ b < w.heap.size ∧ w.cell? ⟨b, off + j, none⟩ = some (.int .i64 (zs.getD j 0))
/-- A slice of n elements of K cells each in a block of this call's own (from block B on), from some cell of it on. -/
def ownsAt (w : World) (B e K : Nat) (v : Value) (n : Nat) (xs : List Value) : Prop :=
  xs.length = n * K ∧ ((v = .slice none 0 0 ∧ n = 0) ∨ ∃ g off cap cur, v = .slice (some ⟨g, off, none⟩) n cap ∧ B ≤ g ∧ w.heap[g]? = some (.cells cur e (0, 0)) ∧ n ≤ cap ∧ cap ≤ maxLen ∧ off + cap * K ≤ cur.size ∧ (cur.toList.drop off).take (n * K) = xs)
theorem ownsAt.lt {w : World} {B e K n : Nat} {v : Value} {xs : List Value} (h : ownsAt w B e K v n xs) : ∀ k, v.ownBlock = some k → B ≤ k ∧ k < w.heap.size := by
  intro k hk
  rcases h.2 with ⟨rfl, _⟩ | ⟨g, off, cap, cur, rfl, hB, hg, _⟩
  · simp [Value.ownBlock] at hk
  · simp [Value.ownBlock] at hk
    subst hk
    exact ⟨hB, (Array.getElem?_eq_some_iff.1 hg).1⟩
theorem ownsAt.frame {w w' : World} {B e K n : Nat} {v : Value} {xs : List Value} (h : ownsAt w B e K v n xs) (hk : ∀ b, v.ownBlock = some b → w'.heap[b]? = w.heap[b]?) : ownsAt w' B e K v n xs := by
  refine ⟨h.1, ?_⟩
  rcases h.2 with h0 | ⟨g, off, cap, cur, hv, hB, hg, hrest⟩
  · exact .inl h0
  · exact .inr ⟨g, off, cap, cur, hv, hB, by rw [hk g (by rw [hv]; rfl)]; exact hg, hrest⟩
theorem ownsAt.cellAt {w : World} {B e K n g off cap : Nat} {xs : List Value} (h : ownsAt w B e K (.slice (some ⟨g, off, none⟩) n cap) n xs) (j : Nat) (hj : j < n * K) : w.cell? ⟨g, off + j, none⟩ = xs[j]? := by
  rcases h.2 with ⟨h0, _⟩ | ⟨g', off', cap', cur, hv, _, hg, _, _, _, ht⟩
  · cases h0
  · cases hv
    rw [cell_of_row w g (off + j) cur e (0, 0) hg, ← ht, List.getElem?_take, if_pos hj, List.getElem?_drop]
    simp
/-- A slice of n elements of k numbers each, in memory of this call's own, from block B on. -/
def OwnI (w : World) (B e k : Nat) (v : Value) (n : Nat) (zs : List Int) : Prop := ownsAt w B e k v n (ival zs)
theorem OwnI.len {w : World} {B e k n : Nat} {v : Value} {zs : List Int} (h : OwnI w B e k v n zs) : zs.length = n * k := by
  have := h.1
  rw [ival_len] at this
  exact this
theorem OwnI.form {w : World} {B e k n : Nat} {v : Value} {zs : List Int} (h : OwnI w B e k v n zs) : (v = .slice none 0 0 ∧ n = 0) ∨ ∃ g off cap, v = .slice (some ⟨g, off, none⟩) n cap ∧ B ≤ g ∧ g < w.heap.size ∧ n ≤ cap := by
  rcases h.2 with ⟨hv, hn⟩ | ⟨g, off, cap, cur, hv, hB, hg, hc, _⟩
  · exact .inl ⟨hv, hn⟩
  · exact .inr ⟨g, off, cap, hv, hB, (Array.getElem?_eq_some_iff.1 hg).1, hc⟩
theorem OwnI.arr {w : World} {B e k n : Nat} {v : Value} {zs : List Int} (h : OwnI w B e k v n zs) : ∃ a cap, v = .slice a n cap ∧ ArrI w a zs ∧ n ≤ cap := by
  rcases h.form with ⟨rfl, rfl⟩ | ⟨g, off, cap, rfl, hB, hlt, hc⟩
  · have hz : zs = [] := List.length_eq_zero_iff.1 (by rw [h.len]; omega)
    subst hz
    exact ⟨none, 0, rfl, fun j hj => by simp at hj, Nat.le_refl _⟩
  · refine ⟨_, cap, rfl, fun j hj => ⟨g, off, rfl, hlt, ?_⟩, hc⟩
    rw [ownsAt.cellAt (show ownsAt w B e k (.slice (some ⟨g, off, none⟩) n cap) n (ival zs) from h) j (by rw [← h.len]; exact hj), ival_get zs j hj]
theorem OwnI.cell {w : World} {B e k n g off cap : Nat} {zs : List Int} (h : OwnI w B e k (.slice (some ⟨g, off, none⟩) n cap) n zs) (j : Nat) (hj : j < zs.length) : w.cell? ⟨g, off + j, none⟩ = some (.int .i64 (zs.getD j 0)) := by
  rw [ownsAt.cellAt (show ownsAt w B e k (.slice (some ⟨g, off, none⟩) n cap) n (ival zs) from h) j (by rw [← h.len]; exact hj), ival_get zs j hj]
/-- What lies in a cell: a plain value, or a slice of this call's own with n elements of K cells each. -/
inductive D where
  | c (v : Value)
  | s (e K n : Nat) (ds : List D)
mutual
def Holds (w : World) (B : Nat) : D → Value → List Nat → Prop
  | .c u, v, bs => v = u ∧ bs = []
  | .s e K n ds, v, bs => ∃ xs fs, ownsAt w B e K v n xs ∧ HoldsL w B ds xs fs ∧ bs = v.ownBlock.toList ++ fs
def HoldsL (w : World) (B : Nat) : List D → List Value → List Nat → Prop
  | [], xs, bs => xs = [] ∧ bs = []
  | d :: ds, xs, bs => ∃ x xt b1 b2, xs = x :: xt ∧ bs = b1 ++ b2 ∧ Holds w B d x b1 ∧ HoldsL w B ds xt b2
 end
theorem row_frame {w w' : World} {B e K n : Nat} {v : Value} {xs : List Value} (h : ownsAt w B e K v n xs) (hk : ∀ b, v.ownBlock = some b → w'.heap[b]? = w.heap[b]?) : ownsAt w' B e K v n xs := h.frame hk
mutual
theorem Holds.frame {w w' : World} {B : Nat} : ∀ (d : D) (v : Value) (bs : List Nat), Holds w B d v bs → (∀ b ∈ bs, w'.heap[b]? = w.heap[b]?) → Holds w' B d v bs
  | .c u, v, bs, h, _ => by unfold Holds at h ⊢; exact h
  | .s e K n ds, v, bs, h, hk => by
    unfold Holds at h ⊢
    obtain ⟨xs, fs, ho, hl, hb⟩ := h
    subst hb
    exact ⟨xs, fs, row_frame ho (fun b hb => hk b (List.mem_append.2 (.inl (by rw [hb]; simp)))), HoldsL.frame ds xs fs hl (fun b hb => hk b (List.mem_append.2 (.inr hb))), rfl⟩
theorem HoldsL.frame {w w' : World} {B : Nat} : ∀ (ds : List D) (xs : List Value) (bs : List Nat), HoldsL w B ds xs bs → (∀ b ∈ bs, w'.heap[b]? = w.heap[b]?) → HoldsL w' B ds xs bs
  | [], xs, bs, h, _ => by unfold HoldsL at h ⊢; exact h
  | d :: ds, xs, bs, h, hk => by
    unfold HoldsL at h ⊢
    obtain ⟨x, xt, b1, b2, hx, hb, h1, h2⟩ := h
    subst hb
    exact ⟨x, xt, b1, b2, hx, rfl, Holds.frame d x b1 h1 (fun b hb => hk b (List.mem_append.2 (.inl hb))), HoldsL.frame ds xt b2 h2 (fun b hb => hk b (List.mem_append.2 (.inr hb)))⟩
 end
mutual
theorem Holds.lt {w : World} {B : Nat} : ∀ (d : D) (v : Value) (bs : List Nat), Holds w B d v bs → ∀ b ∈ bs, B ≤ b ∧ b < w.heap.size
  | .c u, v, bs, h => by unfold Holds at h; intro b hb; rw [h.2] at hb; cases hb
  | .s e K n ds, v, bs, h => by
    unfold Holds at h
    obtain ⟨xs, fs, ho, hl, hb⟩ := h
    subst hb
    intro b hb
    rcases List.mem_append.1 hb with hb | hb
    · exact ho.lt b (by simpa using hb)
    · exact HoldsL.lt ds xs fs hl b hb
theorem HoldsL.lt {w : World} {B : Nat} : ∀ (ds : List D) (xs : List Value) (bs : List Nat), HoldsL w B ds xs bs → ∀ b ∈ bs, B ≤ b ∧ b < w.heap.size
  | [], xs, bs, h => by unfold HoldsL at h; intro b hb; rw [h.2] at hb; cases hb
  | d :: ds, xs, bs, h => by
    unfold HoldsL at h
    obtain ⟨x, xt, b1, b2, hx, hb, h1, h2⟩ := h
    subst hb
    intro b hb
    rcases List.mem_append.1 hb with hb | hb
    · exact Holds.lt d x b1 h1 b hb
    · exact HoldsL.lt ds xt b2 h2 b hb
 end
theorem HoldsL.len {w : World} {B : Nat} : ∀ (ds : List D) (xs : List Value) (bs : List Nat), HoldsL w B ds xs bs → xs.length = ds.length
  | [], xs, bs, h => by unfold HoldsL at h; rw [h.1]; rfl
  | d :: ds, xs, bs, h => by
    unfold HoldsL at h
    obtain ⟨x, xt, b1, b2, hx, hb, h1, h2⟩ := h
    subst hx
    simp [HoldsL.len ds xt b2 h2]
theorem HoldsL.split {w : World} {B : Nat} : ∀ (d1 d2 : List D) (xs : List Value) (bs : List Nat), HoldsL w B (d1 ++ d2) xs bs → ∃ x1 x2 b1 b2, xs = x1 ++ x2 ∧ bs = b1 ++ b2 ∧ HoldsL w B d1 x1 b1 ∧ HoldsL w B d2 x2 b2
  | [], d2, xs, bs, h => ⟨[], xs, [], bs, rfl, rfl, by unfold HoldsL; exact ⟨rfl, rfl⟩, h⟩
  | d :: d1, d2, xs, bs, h => by
    have h' : HoldsL w B (d :: (d1 ++ d2)) xs bs := h
    unfold HoldsL at h'
    obtain ⟨x, xt, b1, b2, hx, hb, h1, h2⟩ := h'
    obtain ⟨y1, y2, c1, c2, e1, e2, k1, k2⟩ := HoldsL.split d1 d2 xt b2 h2
    subst hx hb e1 e2
    refine ⟨x :: y1, y2, b1 ++ c1, c2, rfl, by rw [List.append_assoc], ?_, k2⟩
    unfold HoldsL
    exact ⟨x, y1, b1, c1, rfl, rfl, h1, k1⟩
theorem HoldsL.join {w : World} {B : Nat} : ∀ (d1 d2 : List D) (x1 x2 : List Value) (b1 b2 : List Nat), HoldsL w B d1 x1 b1 → HoldsL w B d2 x2 b2 → HoldsL w B (d1 ++ d2) (x1 ++ x2) (b1 ++ b2)
  | [], d2, x1, x2, b1, b2, h, k => by unfold HoldsL at h; rw [h.1, h.2]; exact k
  | d :: d1, d2, x1, x2, b1, b2, h, k => by
    unfold HoldsL at h
    obtain ⟨x, xt, c1, c2, hx, hb, h1, h2⟩ := h
    subst hx hb
    show HoldsL w B (d :: (d1 ++ d2)) (x :: (xt ++ x2)) (c1 ++ c2 ++ b2)
    unfold HoldsL
    exact ⟨x, xt ++ x2, c1, c2 ++ b2, rfl, by rw [List.append_assoc], h1, HoldsL.join d1 d2 xt x2 c2 b2 h2 k⟩
theorem holds_c {w : World} {B : Nat} {u v : Value} {bs : List Nat} : Holds w B (.c u) v bs ↔ v = u ∧ bs = [] := by unfold Holds; exact Iff.rfl
theorem holdsL_cons {w : World} {B : Nat} {d : D} {ds : List D} {xs : List Value} {bs : List Nat} : HoldsL w B (d :: ds) xs bs ↔ ∃ x xt b1 b2, xs = x :: xt ∧ bs = b1 ++ b2 ∧ Holds w B d x b1 ∧ HoldsL w B ds xt b2 := by
  constructor
  · intro h; unfold HoldsL at h; exact h
  · intro h; unfold HoldsL; exact h
theorem holds_s {w : World} {B e K n : Nat} {ds : List D} {v : Value} {bs : List Nat} : Holds w B (.s e K n ds) v bs ↔ ∃ xs fs, ownsAt w B e K v n xs ∧ HoldsL w B ds xs fs ∧ bs = v.ownBlock.toList ++ fs := by
  constructor
  · intro h; unfold Holds at h; exact h
  · intro h; unfold Holds; exact h
mutual
/-- How many numbers, bools and letters lie there. -/
def szD : D → Nat
  | .c _ => 1
  | .s _ _ _ ds => szL ds
def szL : List D → Nat
  | [] => 0
  | d :: ds => szD d + szL ds
end
/-- What marking makes of a plain value. -/
def mkV (k : Nat) : Value → Value
  | .int .u8 _ => .int .u8 ((k : Int) % 256)
  | .int d _ => .int d (k : Int)
  | .bool _ => .bool (k % 3 == 0)
  | v => v
mutual
/-- What marking makes of a datum. -/
def mkD (k : Nat) : D → D
  | .c v => .c (mkV k v)
  | .s e K n ds => .s e K n (mkL k ds)
def mkL (k : Nat) : List D → List D
  | [] => []
  | d :: ds => mkD k d :: mkL (k + szD d) ds
end
theorem mkL_len : ∀ (ds : List D) (k : Nat), (mkL k ds).length = ds.length
  | [], k => rfl
  | d :: ds, k => by simp only [mkL, List.length_cons, mkL_len ds]
theorem mkL_app : ∀ (d1 d2 : List D) (k : Nat), mkL k (d1 ++ d2) = mkL k d1 ++ mkL (k + szL d1) d2
  | [], d2, k => by simp [mkL, szL]
  | d :: d1, d2, k => by simp only [List.cons_append, mkL, szL, mkL_app d1 d2]; rw [Nat.add_assoc]
theorem mkL_get (ds : List D) (k m : Nat) (d : D) (h : ds[m]? = some d) : (mkL k ds)[m]? = some (mkD (k + szL (ds.take m)) d) := by
  obtain ⟨hm, rfl⟩ := List.getElem?_eq_some_iff.1 h
  have e : ds = ds.take m ++ ds[m] :: ds.drop (m + 1) := by rw [← List.drop_eq_getElem_cons hm, List.take_append_drop]
  have hl : (mkL k (ds.take m)).length = m := by rw [mkL_len, List.length_take]; omega
  have e2 : mkL k ds = mkL k (ds.take m) ++ mkD (k + szL (ds.take m)) ds[m] :: mkL (k + szL (ds.take m) + szD ds[m]) (ds.drop (m + 1)) := by
    conv => lhs; rw [e, mkL_app]
    simp only [mkL]
  rw [e2, List.getElem?_append_right (by omega), hl, Nat.sub_self]
  rfl
/-- One cell of several. -/
theorem HoldsL.at {w : World} {B : Nat} {ds : List D} {xs : List Value} {bs : List Nat} (h : HoldsL w B ds xs bs) {m : Nat} {d : D} (hd : ds[m]? = some d) :
    ∃ x f1 bu f2, xs[m]? = some x ∧ bs = f1 ++ (bu ++ f2) ∧ Holds w B d x bu ∧ ∀ (w' : World) (d' : D) (x' : Value), Holds w' B d' x' bu → (∀ b ∈ f1 ++ f2, w'.heap[b]? = w.heap[b]?) → HoldsL w' B (ds.set m d') (xs.set m x') bs := by
  obtain ⟨hm, rfl⟩ := List.getElem?_eq_some_iff.1 hd
  have e : ds = ds.take m ++ ds[m] :: ds.drop (m + 1) := by rw [← List.drop_eq_getElem_cons hm, List.take_append_drop]
  have h2 := h
  rw [e] at h2
  obtain ⟨x1, y, f1, g1, rfl, rfl, h1, hr⟩ := HoldsL.split _ _ _ _ h2
  obtain ⟨x, x2, bu, f2, rfl, rfl, hx, hr2⟩ := holdsL_cons.1 hr
  have hl : x1.length = m := by rw [HoldsL.len _ _ _ h1, List.length_take]; omega
  refine ⟨x, f1, bu, f2, ?_, rfl, hx, ?_⟩
  · rw [List.getElem?_append_right (by omega), hl, Nat.sub_self]; rfl
  · intro w' d' x' hx' hf
    have es : ds.set m d' = ds.take m ++ d' :: ds.drop (m + 1) := by rw [List.set_eq_take_append_cons_drop, if_pos hm]
    have ex : (x1 ++ x :: x2).set m x' = x1 ++ x' :: x2 := by rw [List.set_append_right _ _ (by omega), hl, Nat.sub_self, List.set_cons_zero]
    rw [es, ex]
    exact HoldsL.join _ _ _ _ _ _ (HoldsL.frame _ _ _ h1 (fun b hb => hf b (List.mem_append_left _ hb))) (holdsL_cons.2 ⟨_, _, _, _, rfl, rfl, hx', HoldsL.frame _ _ _ hr2 (fun b hb => hf b (List.mem_append_right _ hb))⟩)
/-- A cell of a slice that holds a plain value. -/
theorem Holds.cell {w : World} {B e K n g off cap : Nat} {ds : List D} {bs : List Nat} (h : Holds w B (.s e K n ds) (.slice (some ⟨g, off, none⟩) n cap) bs) {m : Nat} {u : Value} (hu : ds[m]? = some (.c u)) : w.cell? ⟨g, off + m, none⟩ = some u := by
  obtain ⟨xs, fs, ho, hl, hbs⟩ := holds_s.1 h
  obtain ⟨x, _, _, _, hx, _, hh, _⟩ := hl.at hu
  have hm := (List.getElem?_eq_some_iff.1 hx).1
  rw [ho.cellAt m (by rw [← ho.1]; exact hm), hx, (holds_c.1 hh).1]

set_option maxRecDepth 100000
/-- What stays as long as these blocks stay. -/
structure Keep (F : List Nat) (P : World → Prop) (W : World) : Prop where
  here : P W
  lt : ∀ b ∈ F, b < W.heap.size
  frame : ∀ W', (∀ b ∈ F, W'.heap[b]? = W.heap[b]?) → P W'
theorem Keep.and {F G : List Nat} {P Q : World → Prop} {W : World} (h : Keep F P W) (k : Keep G Q W) : Keep (F ++ G) (fun W => P W ∧ Q W) W :=
  ⟨⟨h.here, k.here⟩, fun b hb => by rcases List.mem_append.1 hb with hb | hb; exact h.lt b hb; exact k.lt b hb, fun V hv => ⟨h.frame V (fun b hb => hv b (List.mem_append_left _ hb)), k.frame V (fun b hb => hv b (List.mem_append_right _ hb))⟩⟩
theorem below_on {w W W' : World} (h : Below w.heap.size w W) (hb : Below W.heap.size W W') : Below w.heap.size w W' := h.trans (hb.mono h.size)
set_option maxRecDepth 100000
theorem below_set_new {w w1 : World} {R : Nat} (h : Below w.heap.size w w1) (hR : w.heap.size ≤ R) (i : Nat) (u : Value) : Below w.heap.size w (w1.setCell ⟨R, i, none⟩ u) :=
  ⟨h.os, h.tape, h.output, by simpa using h.size, fun k hk => (heap_setCell_other w1 ⟨R, i, none⟩ k u (fun e => by simp at e; omega)).trans (h.block k hk)⟩
theorem below_11n {w w1 : World} {R : Nat} {u0 u1 u2 u3 u4 u5 u6 u7 u8 u9 u10 : Value} (h : Below w.heap.size w w1) (hR : w.heap.size ≤ R) : Below w.heap.size w (((((((((((w1.setCell ⟨R, 0, none⟩ u0).setCell ⟨R, 1, none⟩ u1).setCell ⟨R, 2, none⟩ u2).setCell ⟨R, 3, none⟩ u3).setCell ⟨R, 4, none⟩ u4).setCell ⟨R, 5, none⟩ u5).setCell ⟨R, 6, none⟩ u6).setCell ⟨R, 7, none⟩ u7).setCell ⟨R, 8, none⟩ u8).setCell ⟨R, 9, none⟩ u9).setCell ⟨R, 10, none⟩ u10) :=
  below_set_new (below_set_new (below_set_new (below_set_new (below_set_new (below_set_new (below_set_new (below_set_new (below_set_new (below_set_new (below_set_new h hR 0 u0) hR 1 u1) hR 2 u2) hR 3 u3) hR 4 u4) hR 5 u5) hR 6 u6) hR 7 u7) hR 8 u8) hR 9 u9) hR 10 u10
theorem ownb_11n {w1 : World} {B R : Nat} {v u0 u1 u2 u3 u4 u5 u6 u7 u8 u9 u10 : Value} {zs : List Int} (h : OwnB w1 B v zs) (hR : R < B) : OwnB (((((((((((w1.setCell ⟨R, 0, none⟩ u0).setCell ⟨R, 1, none⟩ u1).setCell ⟨R, 2, none⟩ u2).setCell ⟨R, 3, none⟩ u3).setCell ⟨R, 4, none⟩ u4).setCell ⟨R, 5, none⟩ u5).setCell ⟨R, 6, none⟩ u6).setCell ⟨R, 7, none⟩ u7).setCell ⟨R, 8, none⟩ u8).setCell ⟨R, 9, none⟩ u9).setCell ⟨R, 10, none⟩ u10) B v zs :=
  (((((((((((h.setBelow (a := ⟨R, 0, none⟩) hR u0).setBelow (a := ⟨R, 1, none⟩) hR u1).setBelow (a := ⟨R, 2, none⟩) hR u2).setBelow (a := ⟨R, 3, none⟩) hR u3).setBelow (a := ⟨R, 4, none⟩) hR u4).setBelow (a := ⟨R, 5, none⟩) hR u5).setBelow (a := ⟨R, 6, none⟩) hR u6).setBelow (a := ⟨R, 7, none⟩) hR u7).setBelow (a := ⟨R, 8, none⟩) hR u8).setBelow (a := ⟨R, 9, none⟩) hR u9).setBelow (a := ⟨R, 10, none⟩) hR u10)
end Go.Proofs.YthbkhfiadkookaaGreatDoor
