/-
Contracts of functions of this seat.
-/
import Derived.Test.YtcnfnimgpiaamaaDoorRows
import Derived.WalkKit
import Derived.ProofKit
import Derived.OpenShut
import Derived.Test.YtcnfnimgpiaamaaDoorSd5
namespace Go.Proofs.YtcnfnimgpiaamaaDoor
open Go.ChangeShapes Go.WideShapes Go.ChangeAt Go.RowKit
set_option linter.unusedVariables false
set_option maxRecDepth 100000
/-- What DecodeSegment answers. -/
def dsS (zs : List Int) : Nat := (zs.getD 12 0 / 16).toNat * 4
def dsC (zs : List Int) (s d : Int) : Int :=
  if adrB s && adrB d then
    (if zs.length < 20 then 2 else if 65515 < zs.length then 7 else if dsS zs < 20 ∨ zs.length < dsS zs then 5 else if fsum s d 6 zs ≠ 0 then 3
     else match rdO ((zs.take (dsS zs)).drop 20) ⟨0, false, 0, false, []⟩ with | none => 10 | some _ => 0)
  else 1
set_option maxHeartbeats 4000000 in
theorem specDecS_f1 (a : Option Addr) (n cap : Nat) (s d : Int) (zs : List Int) (w : World) (h0 : adrB s = false) :
    Calls Tryd.prog 12 #[.slice a n cap, .int .i64 s, .int .i64 d] w fun e w' => e = .returned (.tuple #[.agg #[.int .i64 0, .int .i64 0, .int .i64 0, .int .i64 0, .int .i64 0, .int .i64 0, .int .i64 0, .bool false, .int .i64 0, .bool false, .slice none 0 0, .slice none 0 0], .int .i64 1]) ∧ Below w.heap.size w w' := by
  have HR : Hid (HoldV (w.alloc (.cells #[.int .i64 0, .int .i64 0, .int .i64 0, .int .i64 0, .int .i64 0, .int .i64 0, .int .i64 0, .bool false, .int .i64 0, .bool false, .slice none 0 0, .slice none 0 0] sgT)) w.heap.size #[.int .i64 0, .int .i64 0, .int .i64 0, .int .i64 0, .int .i64 0, .int .i64 0, .int .i64 0, .bool false, .int .i64 0, .bool false, .slice none 0 0, .slice none 0 0] sgT) := hide (heap_alloc_new _ _)
  have HW := hide ((Below.refl w.heap.size w).alloc (Nat.le_refl _) (.cells #[.int .i64 0, .int .i64 0, .int .i64 0, .int .i64 0, .int .i64 0, .int .i64 0, .int .i64 0, .bool false, .int .i64 0, .bool false, .slice none 0 0, .slice none 0 0] sgT))
  have r0 := HR.out.cell 0 _ rfl; have r1 := HR.out.cell 1 _ rfl; have r2 := HR.out.cell 2 _ rfl; have r3 := HR.out.cell 3 _ rfl; have r4 := HR.out.cell 4 _ rfl; have r5 := HR.out.cell 5 _ rfl; have r6 := HR.out.cell 6 _ rfl; have r7 := HR.out.cell 7 _ rfl; have r8 := HR.out.cell 8 _ rfl; have r9 := HR.out.cell 9 _ rfl; have r10 := HR.out.cell 10 _ rfl; have r11 := HR.out.cell 11 _ rfl; have rf := HR.out.frozen
  go_enter Tryd.func12, Tryd.ntmps12
  go_upto_region 1 with fail
  generalize w.alloc (.cells #[.int .i64 0, .int .i64 0, .int .i64 0, .int .i64 0, .int .i64 0, .int .i64 0, .int .i64 0, .bool false, .int .i64 0, .bool false, .slice none 0 0, .slice none 0 0] sgT) = W at *
  go_wp2_with (first | (go_at_call 36; refine (specAddrOK_walk _ _).mono ?_; rintro e w2 ⟨rfl, rfl⟩))
  refine ret12 (P := fun X => bodyPost Tryd.prog Tryd.f12 _ _ _ X) HR.out ?_
  intro W9 hr9 hg9
  have hb9 := HW.out.grown hg9 HW.out.size (fun k hk => by cases hk; exact Nat.le_refl _)
  clear hg9 rf r0 r1 r2 r3 r4 r5 r6 r7 r8 r9 r10 r11
  have r0 := hr9.cell 0 _ rfl; have r1 := hr9.cell 1 _ rfl; have r2 := hr9.cell 2 _ rfl; have r3 := hr9.cell 3 _ rfl; have r4 := hr9.cell 4 _ rfl; have r5 := hr9.cell 5 _ rfl; have r6 := hr9.cell 6 _ rfl; have r7 := hr9.cell 7 _ rfl; have r8 := hr9.cell 8 _ rfl; have r9 := hr9.cell 9 _ rfl; have r10 := hr9.cell 10 _ rfl; have r11 := hr9.cell 11 _ rfl
  exact bodyPost_ret (v := .tuple #[.agg #[.int .i64 0, .int .i64 0, .int .i64 0, .int .i64 0, .int .i64 0, .int .i64 0, .int .i64 0, .bool false, .int .i64 0, .bool false, .slice none 0 0, .slice none 0 0], .int .i64 1]) (by simp [results, Tryd.results12, go_sem, r0, r1, r2, r3, r4, r5, r6, r7, r8, r9, r10, r11]) rfl ⟨rfl, hb9⟩
set_option maxHeartbeats 4000000 in
theorem specDecS_f2 (a : Option Addr) (n cap : Nat) (s d : Int) (zs : List Int) (w : World) (h0 : adrB s = true) (h1 : adrB d = false) :
    Calls Tryd.prog 12 #[.slice a n cap, .int .i64 s, .int .i64 d] w fun e w' => e = .returned (.tuple #[.agg #[.int .i64 0, .int .i64 0, .int .i64 0, .int .i64 0, .int .i64 0, .int .i64 0, .int .i64 0, .bool false, .int .i64 0, .bool false, .slice none 0 0, .slice none 0 0], .int .i64 1]) ∧ Below w.heap.size w w' := by
  have HR : Hid (HoldV (w.alloc (.cells #[.int .i64 0, .int .i64 0, .int .i64 0, .int .i64 0, .int .i64 0, .int .i64 0, .int .i64 0, .bool false, .int .i64 0, .bool false, .slice none 0 0, .slice none 0 0] sgT)) w.heap.size #[.int .i64 0, .int .i64 0, .int .i64 0, .int .i64 0, .int .i64 0, .int .i64 0, .int .i64 0, .bool false, .int .i64 0, .bool false, .slice none 0 0, .slice none 0 0] sgT) := hide (heap_alloc_new _ _)
  have HW := hide ((Below.refl w.heap.size w).alloc (Nat.le_refl _) (.cells #[.int .i64 0, .int .i64 0, .int .i64 0, .int .i64 0, .int .i64 0, .int .i64 0, .int .i64 0, .bool false, .int .i64 0, .bool false, .slice none 0 0, .slice none 0 0] sgT))
  have r0 := HR.out.cell 0 _ rfl; have r1 := HR.out.cell 1 _ rfl; have r2 := HR.out.cell 2 _ rfl; have r3 := HR.out.cell 3 _ rfl; have r4 := HR.out.cell 4 _ rfl; have r5 := HR.out.cell 5 _ rfl; have r6 := HR.out.cell 6 _ rfl; have r7 := HR.out.cell 7 _ rfl; have r8 := HR.out.cell 8 _ rfl; have r9 := HR.out.cell 9 _ rfl; have r10 := HR.out.cell 10 _ rfl; have r11 := HR.out.cell 11 _ rfl; have rf := HR.out.frozen
  go_enter Tryd.func12, Tryd.ntmps12
  go_upto_region 1 with fail
  generalize w.alloc (.cells #[.int .i64 0, .int .i64 0, .int .i64 0, .int .i64 0, .int .i64 0, .int .i64 0, .int .i64 0, .bool false, .int .i64 0, .bool false, .slice none 0 0, .slice none 0 0] sgT) = W at *
  go_wp2_with (first | (go_at_call 36; refine (specAddrOK_walk _ _).mono ?_; rintro e w2 ⟨rfl, rfl⟩))
  refine ret12 (P := fun X => bodyPost Tryd.prog Tryd.f12 _ _ _ X) HR.out ?_
  intro W9 hr9 hg9
  have hb9 := HW.out.grown hg9 HW.out.size (fun k hk => by cases hk; exact Nat.le_refl _)
  clear hg9 rf r0 r1 r2 r3 r4 r5 r6 r7 r8 r9 r10 r11
  have r0 := hr9.cell 0 _ rfl; have r1 := hr9.cell 1 _ rfl; have r2 := hr9.cell 2 _ rfl; have r3 := hr9.cell 3 _ rfl; have r4 := hr9.cell 4 _ rfl; have r5 := hr9.cell 5 _ rfl; have r6 := hr9.cell 6 _ rfl; have r7 := hr9.cell 7 _ rfl; have r8 := hr9.cell 8 _ rfl; have r9 := hr9.cell 9 _ rfl; have r10 := hr9.cell 10 _ rfl; have r11 := hr9.cell 11 _ rfl
  exact bodyPost_ret (v := .tuple #[.agg #[.int .i64 0, .int .i64 0, .int .i64 0, .int .i64 0, .int .i64 0, .int .i64 0, .int .i64 0, .bool false, .int .i64 0, .bool false, .slice none 0 0, .slice none 0 0], .int .i64 1]) (by simp [results, Tryd.results12, go_sem, r0, r1, r2, r3, r4, r5, r6, r7, r8, r9, r10, r11]) rfl ⟨rfl, hb9⟩
set_option maxHeartbeats 4000000 in
theorem specDecS_short (a : Option Addr) (n cap : Nat) (s d : Int) (zs : List Int) (w : World) (h0 : adrB s = true) (h1 : adrB d = true) (h : n < 20) :
    Calls Tryd.prog 12 #[.slice a n cap, .int .i64 s, .int .i64 d] w fun e w' => e = .returned (.tuple #[.agg #[.int .i64 0, .int .i64 0, .int .i64 0, .int .i64 0, .int .i64 0, .int .i64 0, .int .i64 0, .bool false, .int .i64 0, .bool false, .slice none 0 0, .slice none 0 0], .int .i64 2]) ∧ Below w.heap.size w w' := by
  have HR : Hid (HoldV (w.alloc (.cells #[.int .i64 0, .int .i64 0, .int .i64 0, .int .i64 0, .int .i64 0, .int .i64 0, .int .i64 0, .bool false, .int .i64 0, .bool false, .slice none 0 0, .slice none 0 0] sgT)) w.heap.size #[.int .i64 0, .int .i64 0, .int .i64 0, .int .i64 0, .int .i64 0, .int .i64 0, .int .i64 0, .bool false, .int .i64 0, .bool false, .slice none 0 0, .slice none 0 0] sgT) := hide (heap_alloc_new _ _)
  have HW := hide ((Below.refl w.heap.size w).alloc (Nat.le_refl _) (.cells #[.int .i64 0, .int .i64 0, .int .i64 0, .int .i64 0, .int .i64 0, .int .i64 0, .int .i64 0, .bool false, .int .i64 0, .bool false, .slice none 0 0, .slice none 0 0] sgT))
  have hi : (n : Int) < 20 := by omega
  have r0 := HR.out.cell 0 _ rfl; have r1 := HR.out.cell 1 _ rfl; have r2 := HR.out.cell 2 _ rfl; have r3 := HR.out.cell 3 _ rfl; have r4 := HR.out.cell 4 _ rfl; have r5 := HR.out.cell 5 _ rfl; have r6 := HR.out.cell 6 _ rfl; have r7 := HR.out.cell 7 _ rfl; have r8 := HR.out.cell 8 _ rfl; have r9 := HR.out.cell 9 _ rfl; have r10 := HR.out.cell 10 _ rfl; have r11 := HR.out.cell 11 _ rfl; have rf := HR.out.frozen
  go_enter Tryd.func12, Tryd.ntmps12
  go_upto_region 1 with fail
  generalize w.alloc (.cells #[.int .i64 0, .int .i64 0, .int .i64 0, .int .i64 0, .int .i64 0, .int .i64 0, .int .i64 0, .bool false, .int .i64 0, .bool false, .slice none 0 0, .slice none 0 0] sgT) = W at *
  go_wp2_with (first | (go_at_call 36; refine (specAddrOK_walk _ _).mono ?_; rintro e w2 ⟨rfl, rfl⟩))
  refine ret12 (P := fun X => bodyPost Tryd.prog Tryd.f12 _ _ _ X) HR.out ?_
  intro W9 hr9 hg9
  have hb9 := HW.out.grown hg9 HW.out.size (fun k hk => by cases hk; exact Nat.le_refl _)
  clear hg9 rf r0 r1 r2 r3 r4 r5 r6 r7 r8 r9 r10 r11
  have r0 := hr9.cell 0 _ rfl; have r1 := hr9.cell 1 _ rfl; have r2 := hr9.cell 2 _ rfl; have r3 := hr9.cell 3 _ rfl; have r4 := hr9.cell 4 _ rfl; have r5 := hr9.cell 5 _ rfl; have r6 := hr9.cell 6 _ rfl; have r7 := hr9.cell 7 _ rfl; have r8 := hr9.cell 8 _ rfl; have r9 := hr9.cell 9 _ rfl; have r10 := hr9.cell 10 _ rfl; have r11 := hr9.cell 11 _ rfl
  exact bodyPost_ret (v := .tuple #[.agg #[.int .i64 0, .int .i64 0, .int .i64 0, .int .i64 0, .int .i64 0, .int .i64 0, .int .i64 0, .bool false, .int .i64 0, .bool false, .slice none 0 0, .slice none 0 0], .int .i64 2]) (by simp [results, Tryd.results12, go_sem, r0, r1, r2, r3, r4, r5, r6, r7, r8, r9, r10, r11]) rfl ⟨rfl, hb9⟩
set_option maxHeartbeats 4000000 in
theorem specDecS_size (a : Option Addr) (n cap : Nat) (s d : Int) (zs : List Int) (w : World) (h0 : adrB s = true) (h1 : adrB d = true) (h : 65515 < n) :
    Calls Tryd.prog 12 #[.slice a n cap, .int .i64 s, .int .i64 d] w fun e w' => e = .returned (.tuple #[.agg #[.int .i64 0, .int .i64 0, .int .i64 0, .int .i64 0, .int .i64 0, .int .i64 0, .int .i64 0, .bool false, .int .i64 0, .bool false, .slice none 0 0, .slice none 0 0], .int .i64 7]) ∧ Below w.heap.size w w' := by
  have HR : Hid (HoldV (w.alloc (.cells #[.int .i64 0, .int .i64 0, .int .i64 0, .int .i64 0, .int .i64 0, .int .i64 0, .int .i64 0, .bool false, .int .i64 0, .bool false, .slice none 0 0, .slice none 0 0] sgT)) w.heap.size #[.int .i64 0, .int .i64 0, .int .i64 0, .int .i64 0, .int .i64 0, .int .i64 0, .int .i64 0, .bool false, .int .i64 0, .bool false, .slice none 0 0, .slice none 0 0] sgT) := hide (heap_alloc_new _ _)
  have HW := hide ((Below.refl w.heap.size w).alloc (Nat.le_refl _) (.cells #[.int .i64 0, .int .i64 0, .int .i64 0, .int .i64 0, .int .i64 0, .int .i64 0, .int .i64 0, .bool false, .int .i64 0, .bool false, .slice none 0 0, .slice none 0 0] sgT))
  have hi : ¬ (n : Int) < 20 := by omega
  have hj : (65515 : Int) < (n : Int) := by omega
  have r0 := HR.out.cell 0 _ rfl; have r1 := HR.out.cell 1 _ rfl; have r2 := HR.out.cell 2 _ rfl; have r3 := HR.out.cell 3 _ rfl; have r4 := HR.out.cell 4 _ rfl; have r5 := HR.out.cell 5 _ rfl; have r6 := HR.out.cell 6 _ rfl; have r7 := HR.out.cell 7 _ rfl; have r8 := HR.out.cell 8 _ rfl; have r9 := HR.out.cell 9 _ rfl; have r10 := HR.out.cell 10 _ rfl; have r11 := HR.out.cell 11 _ rfl; have rf := HR.out.frozen
  go_enter Tryd.func12, Tryd.ntmps12
  go_upto_region 1 with fail
  generalize w.alloc (.cells #[.int .i64 0, .int .i64 0, .int .i64 0, .int .i64 0, .int .i64 0, .int .i64 0, .int .i64 0, .bool false, .int .i64 0, .bool false, .slice none 0 0, .slice none 0 0] sgT) = W at *
  go_wp2_with (first | (go_at_call 36; refine (specAddrOK_walk _ _).mono ?_; rintro e w2 ⟨rfl, rfl⟩))
  refine ret12 (P := fun X => bodyPost Tryd.prog Tryd.f12 _ _ _ X) HR.out ?_
  intro W9 hr9 hg9
  have hb9 := HW.out.grown hg9 HW.out.size (fun k hk => by cases hk; exact Nat.le_refl _)
  clear hg9 rf r0 r1 r2 r3 r4 r5 r6 r7 r8 r9 r10 r11
  have r0 := hr9.cell 0 _ rfl; have r1 := hr9.cell 1 _ rfl; have r2 := hr9.cell 2 _ rfl; have r3 := hr9.cell 3 _ rfl; have r4 := hr9.cell 4 _ rfl; have r5 := hr9.cell 5 _ rfl; have r6 := hr9.cell 6 _ rfl; have r7 := hr9.cell 7 _ rfl; have r8 := hr9.cell 8 _ rfl; have r9 := hr9.cell 9 _ rfl; have r10 := hr9.cell 10 _ rfl; have r11 := hr9.cell 11 _ rfl
  exact bodyPost_ret (v := .tuple #[.agg #[.int .i64 0, .int .i64 0, .int .i64 0, .int .i64 0, .int .i64 0, .int .i64 0, .int .i64 0, .bool false, .int .i64 0, .bool false, .slice none 0 0, .slice none 0 0], .int .i64 7]) (by simp [results, Tryd.results12, go_sem, r0, r1, r2, r3, r4, r5, r6, r7, r8, r9, r10, r11]) rfl ⟨rfl, hb9⟩
set_option maxHeartbeats 4000000 in
theorem specDecS_low (b off : Nat) (n cap : Nat) (s d : Int) (zs : List Int) (w : World) (h0 : adrB s = true) (h1 : adrB d = true) (h20 : 20 ≤ n) (hm : n ≤ 65515) (hn : zs.length = n) (ha : Arr w (some ⟨b, off, none⟩) zs) (hcap : n ≤ cap) (hl : dsS zs < 20) :
    Calls Tryd.prog 12 #[.slice (some ⟨b, off, none⟩) n cap, .int .i64 s, .int .i64 d] w fun e w' => e = .returned (.tuple #[.agg #[.int .i64 0, .int .i64 0, .int .i64 0, .int .i64 0, .int .i64 0, .int .i64 0, .int .i64 0, .bool false, .int .i64 0, .bool false, .slice none 0 0, .slice none 0 0], .int .i64 5]) ∧ Below w.heap.size w w' := by
  have HR : Hid (HoldV (w.alloc (.cells #[.int .i64 0, .int .i64 0, .int .i64 0, .int .i64 0, .int .i64 0, .int .i64 0, .int .i64 0, .bool false, .int .i64 0, .bool false, .slice none 0 0, .slice none 0 0] sgT)) w.heap.size #[.int .i64 0, .int .i64 0, .int .i64 0, .int .i64 0, .int .i64 0, .int .i64 0, .int .i64 0, .bool false, .int .i64 0, .bool false, .slice none 0 0, .slice none 0 0] sgT) := hide (heap_alloc_new _ _)
  have HW := hide ((Below.refl w.heap.size w).alloc (Nat.le_refl _) (.cells #[.int .i64 0, .int .i64 0, .int .i64 0, .int .i64 0, .int .i64 0, .int .i64 0, .int .i64 0, .bool false, .int .i64 0, .bool false, .slice none 0 0, .slice none 0 0] sgT))
  have hi : ¬ (n : Int) < 20 := by omega
  have hj : ¬ (65515 : Int) < (n : Int) := by omega
  obtain ⟨_, _, ee, hbw, hc12⟩ := (ha.below HW.out (Nat.le_refl _)).2 12 (by omega)
  injection ee with ee; injection ee with ee1 ee2; subst ee1 ee2
  have h12n : 12 < n := by omega
  have h12i : (12 : Int) < (n : Int) := by omega
  have hbd := getD_bd ha.1 12
  have HSQ : Hid (((dsS zs : Nat) : Int) = zs.getD 12 0 / 16 * 4) := hide (by unfold dsS; omega)
  have hx0 := hbd.1; have hx1 := hbd.2
  clear hbd
  have hlq : zs.getD 12 0 / 16 * 4 < 20 := by have := HSQ.out; omega
  clear HSQ ha hn hl
  generalize zs.getD 12 0 = x at *
  have r0 := HR.out.cell 0 _ rfl; have r1 := HR.out.cell 1 _ rfl; have r2 := HR.out.cell 2 _ rfl; have r3 := HR.out.cell 3 _ rfl; have r4 := HR.out.cell 4 _ rfl; have r5 := HR.out.cell 5 _ rfl; have r6 := HR.out.cell 6 _ rfl; have r7 := HR.out.cell 7 _ rfl; have r8 := HR.out.cell 8 _ rfl; have r9 := HR.out.cell 9 _ rfl; have r10 := HR.out.cell 10 _ rfl; have r11 := HR.out.cell 11 _ rfl; have rf := HR.out.frozen
  go_enter Tryd.func12, Tryd.ntmps12
  go_upto_region 1 with fail
  generalize w.alloc (.cells #[.int .i64 0, .int .i64 0, .int .i64 0, .int .i64 0, .int .i64 0, .int .i64 0, .int .i64 0, .bool false, .int .i64 0, .bool false, .slice none 0 0, .slice none 0 0] sgT) = W at *
  go_wp2_with (first | (go_at_call 36; refine (specAddrOK_walk _ _).mono ?_; rintro e w2 ⟨rfl, rfl⟩))
  refine ret12 (P := fun X => bodyPost Tryd.prog Tryd.f12 _ _ _ X) HR.out ?_
  intro W9 hr9 hg9
  have hb9 := HW.out.grown hg9 HW.out.size (fun k hk => by cases hk; exact Nat.le_refl _)
  clear hg9 rf r0 r1 r2 r3 r4 r5 r6 r7 r8 r9 r10 r11
  have r0 := hr9.cell 0 _ rfl; have r1 := hr9.cell 1 _ rfl; have r2 := hr9.cell 2 _ rfl; have r3 := hr9.cell 3 _ rfl; have r4 := hr9.cell 4 _ rfl; have r5 := hr9.cell 5 _ rfl; have r6 := hr9.cell 6 _ rfl; have r7 := hr9.cell 7 _ rfl; have r8 := hr9.cell 8 _ rfl; have r9 := hr9.cell 9 _ rfl; have r10 := hr9.cell 10 _ rfl; have r11 := hr9.cell 11 _ rfl
  exact bodyPost_ret (v := .tuple #[.agg #[.int .i64 0, .int .i64 0, .int .i64 0, .int .i64 0, .int .i64 0, .int .i64 0, .int .i64 0, .bool false, .int .i64 0, .bool false, .slice none 0 0, .slice none 0 0], .int .i64 5]) (by simp [results, Tryd.results12, go_sem, r0, r1, r2, r3, r4, r5, r6, r7, r8, r9, r10, r11]) rfl ⟨rfl, hb9⟩
set_option maxHeartbeats 4000000 in
theorem specDecS_high (b off : Nat) (n cap : Nat) (s d : Int) (zs : List Int) (w : World) (h0 : adrB s = true) (h1 : adrB d = true) (h20 : 20 ≤ n) (hm : n ≤ 65515) (hn : zs.length = n) (ha : Arr w (some ⟨b, off, none⟩) zs) (hcap : n ≤ cap) (hl : ¬ dsS zs < 20) (hh : n < dsS zs) :
    Calls Tryd.prog 12 #[.slice (some ⟨b, off, none⟩) n cap, .int .i64 s, .int .i64 d] w fun e w' => e = .returned (.tuple #[.agg #[.int .i64 0, .int .i64 0, .int .i64 0, .int .i64 0, .int .i64 0, .int .i64 0, .int .i64 0, .bool false, .int .i64 0, .bool false, .slice none 0 0, .slice none 0 0], .int .i64 5]) ∧ Below w.heap.size w w' := by
  have HR : Hid (HoldV (w.alloc (.cells #[.int .i64 0, .int .i64 0, .int .i64 0, .int .i64 0, .int .i64 0, .int .i64 0, .int .i64 0, .bool false, .int .i64 0, .bool false, .slice none 0 0, .slice none 0 0] sgT)) w.heap.size #[.int .i64 0, .int .i64 0, .int .i64 0, .int .i64 0, .int .i64 0, .int .i64 0, .int .i64 0, .bool false, .int .i64 0, .bool false, .slice none 0 0, .slice none 0 0] sgT) := hide (heap_alloc_new _ _)
  have HW := hide ((Below.refl w.heap.size w).alloc (Nat.le_refl _) (.cells #[.int .i64 0, .int .i64 0, .int .i64 0, .int .i64 0, .int .i64 0, .int .i64 0, .int .i64 0, .bool false, .int .i64 0, .bool false, .slice none 0 0, .slice none 0 0] sgT))
  have hi : ¬ (n : Int) < 20 := by omega
  have hj : ¬ (65515 : Int) < (n : Int) := by omega
  obtain ⟨_, _, ee, hbw, hc12⟩ := (ha.below HW.out (Nat.le_refl _)).2 12 (by omega)
  injection ee with ee; injection ee with ee1 ee2; subst ee1 ee2
  have h12n : 12 < n := by omega
  have h12i : (12 : Int) < (n : Int) := by omega
  have hbd := getD_bd ha.1 12
  have HSQ : Hid (((dsS zs : Nat) : Int) = zs.getD 12 0 / 16 * 4) := hide (by unfold dsS; omega)
  have hx0 := hbd.1; have hx1 := hbd.2
  clear hbd
  have hlq : ¬ zs.getD 12 0 / 16 * 4 < 20 := by have := HSQ.out; omega
  have hhq : (n : Int) < zs.getD 12 0 / 16 * 4 := by have := HSQ.out; omega
  clear HSQ ha hn hl hh
  generalize zs.getD 12 0 = x at *
  have r0 := HR.out.cell 0 _ rfl; have r1 := HR.out.cell 1 _ rfl; have r2 := HR.out.cell 2 _ rfl; have r3 := HR.out.cell 3 _ rfl; have r4 := HR.out.cell 4 _ rfl; have r5 := HR.out.cell 5 _ rfl; have r6 := HR.out.cell 6 _ rfl; have r7 := HR.out.cell 7 _ rfl; have r8 := HR.out.cell 8 _ rfl; have r9 := HR.out.cell 9 _ rfl; have r10 := HR.out.cell 10 _ rfl; have r11 := HR.out.cell 11 _ rfl; have rf := HR.out.frozen
  go_enter Tryd.func12, Tryd.ntmps12
  go_upto_region 1 with fail
  generalize w.alloc (.cells #[.int .i64 0, .int .i64 0, .int .i64 0, .int .i64 0, .int .i64 0, .int .i64 0, .int .i64 0, .bool false, .int .i64 0, .bool false, .slice none 0 0, .slice none 0 0] sgT) = W at *
  go_wp2_with (first | (go_at_call 36; refine (specAddrOK_walk _ _).mono ?_; rintro e w2 ⟨rfl, rfl⟩))
  refine ret12 (P := fun X => bodyPost Tryd.prog Tryd.f12 _ _ _ X) HR.out ?_
  intro W9 hr9 hg9
  have hb9 := HW.out.grown hg9 HW.out.size (fun k hk => by cases hk; exact Nat.le_refl _)
  clear hg9 rf r0 r1 r2 r3 r4 r5 r6 r7 r8 r9 r10 r11
  have r0 := hr9.cell 0 _ rfl; have r1 := hr9.cell 1 _ rfl; have r2 := hr9.cell 2 _ rfl; have r3 := hr9.cell 3 _ rfl; have r4 := hr9.cell 4 _ rfl; have r5 := hr9.cell 5 _ rfl; have r6 := hr9.cell 6 _ rfl; have r7 := hr9.cell 7 _ rfl; have r8 := hr9.cell 8 _ rfl; have r9 := hr9.cell 9 _ rfl; have r10 := hr9.cell 10 _ rfl; have r11 := hr9.cell 11 _ rfl
  exact bodyPost_ret (v := .tuple #[.agg #[.int .i64 0, .int .i64 0, .int .i64 0, .int .i64 0, .int .i64 0, .int .i64 0, .int .i64 0, .bool false, .int .i64 0, .bool false, .slice none 0 0, .slice none 0 0], .int .i64 5]) (by simp [results, Tryd.results12, go_sem, r0, r1, r2, r3, r4, r5, r6, r7, r8, r9, r10, r11]) rfl ⟨rfl, hb9⟩
set_option maxHeartbeats 4000000 in
theorem specDecS_sum (b off : Nat) (n cap : Nat) (s d : Int) (zs : List Int) (w : World) (h0 : adrB s = true) (h1 : adrB d = true) (h20 : 20 ≤ n) (hm : n ≤ 65515) (hn : zs.length = n) (ha : Arr w (some ⟨b, off, none⟩) zs) (hcap : n ≤ cap) (hl : ¬ dsS zs < 20) (hh : dsS zs ≤ n) (hf : ¬ fsum s d 6 zs = 0) :
    Calls Tryd.prog 12 #[.slice (some ⟨b, off, none⟩) n cap, .int .i64 s, .int .i64 d] w fun e w' => e = .returned (.tuple #[.agg #[.int .i64 0, .int .i64 0, .int .i64 0, .int .i64 0, .int .i64 0, .int .i64 0, .int .i64 0, .bool false, .int .i64 0, .bool false, .slice none 0 0, .slice none 0 0], .int .i64 3]) ∧ Below w.heap.size w w' := by
  have HR : Hid (HoldV (w.alloc (.cells #[.int .i64 0, .int .i64 0, .int .i64 0, .int .i64 0, .int .i64 0, .int .i64 0, .int .i64 0, .bool false, .int .i64 0, .bool false, .slice none 0 0, .slice none 0 0] sgT)) w.heap.size #[.int .i64 0, .int .i64 0, .int .i64 0, .int .i64 0, .int .i64 0, .int .i64 0, .int .i64 0, .bool false, .int .i64 0, .bool false, .slice none 0 0, .slice none 0 0] sgT) := hide (heap_alloc_new _ _)
  have HW := hide ((Below.refl w.heap.size w).alloc (Nat.le_refl _) (.cells #[.int .i64 0, .int .i64 0, .int .i64 0, .int .i64 0, .int .i64 0, .int .i64 0, .int .i64 0, .bool false, .int .i64 0, .bool false, .slice none 0 0, .slice none 0 0] sgT))
  have hi : ¬ (n : Int) < 20 := by omega
  have hj : ¬ (65515 : Int) < (n : Int) := by omega
  obtain ⟨_, _, ee, hbw, hc12⟩ := (ha.below HW.out (Nat.le_refl _)).2 12 (by omega)
  injection ee with ee; injection ee with ee1 ee2; subst ee1 ee2
  have h12n : 12 < n := by omega
  have h12i : (12 : Int) < (n : Int) := by omega
  have hbd := getD_bd ha.1 12
  have HSQ : Hid (((dsS zs : Nat) : Int) = zs.getD 12 0 / 16 * 4) := hide (by unfold dsS; omega)
  have hx0 := hbd.1; have hx1 := hbd.2
  clear hbd
  have hlq : ¬ zs.getD 12 0 / 16 * 4 < 20 := by have := HSQ.out; omega
  have hhq : ¬ (n : Int) < zs.getD 12 0 / 16 * 4 := by have := HSQ.out; omega
  have CF := hide (fun W (hb : Below w.heap.size w W) => l10Sum_walk (some ⟨b, off, none⟩) n cap s d 6 zs W hn (ha.below hb (Nat.le_refl _)) (by omega))
  have hfb : (fsum s d 6 zs != 0) = true := by simpa using hf
  generalize fsum s d 6 zs = FS at *
  clear HSQ ha hn hl hh hf
  generalize zs.getD 12 0 = x at *
  have r0 := HR.out.cell 0 _ rfl; have r1 := HR.out.cell 1 _ rfl; have r2 := HR.out.cell 2 _ rfl; have r3 := HR.out.cell 3 _ rfl; have r4 := HR.out.cell 4 _ rfl; have r5 := HR.out.cell 5 _ rfl; have r6 := HR.out.cell 6 _ rfl; have r7 := HR.out.cell 7 _ rfl; have r8 := HR.out.cell 8 _ rfl; have r9 := HR.out.cell 9 _ rfl; have r10 := HR.out.cell 10 _ rfl; have r11 := HR.out.cell 11 _ rfl; have rf := HR.out.frozen
  go_enter Tryd.func12, Tryd.ntmps12
  go_upto_region 1 with fail
  generalize w.alloc (.cells #[.int .i64 0, .int .i64 0, .int .i64 0, .int .i64 0, .int .i64 0, .int .i64 0, .int .i64 0, .bool false, .int .i64 0, .bool false, .slice none 0 0, .slice none 0 0] sgT) = W at *
  go_wp2_with (first | (go_at_call 36; refine (specAddrOK_walk _ _).mono ?_; rintro e w2 ⟨rfl, rfl⟩))
  refine (CF.out _ HW.out).mono ?_
  rintro e w1 ⟨rfl, hb1⟩
  have HR1 := hide (HR.out.next hb1); have HW1 := hide (below_on HW.out hb1)
  clear hb1 HR HW rf r0 r1 r2 r3 r4 r5 r6 r7 r8 r9 r10 r11
  have HR := HR1; have HW := HW1
  have r0 := HR.out.cell 0 _ rfl; have r1 := HR.out.cell 1 _ rfl; have r2 := HR.out.cell 2 _ rfl; have r3 := HR.out.cell 3 _ rfl; have r4 := HR.out.cell 4 _ rfl; have r5 := HR.out.cell 5 _ rfl; have r6 := HR.out.cell 6 _ rfl; have r7 := HR.out.cell 7 _ rfl; have r8 := HR.out.cell 8 _ rfl; have r9 := HR.out.cell 9 _ rfl; have r10 := HR.out.cell 10 _ rfl; have r11 := HR.out.cell 11 _ rfl; have rf := HR.out.frozen
  go_wp2_with fail
  refine ret12 (P := fun X => bodyPost Tryd.prog Tryd.f12 _ _ _ X) HR.out ?_
  intro W9 hr9 hg9
  have hb9 := HW.out.grown hg9 HW.out.size (fun k hk => by cases hk; exact Nat.le_refl _)
  clear hg9 rf r0 r1 r2 r3 r4 r5 r6 r7 r8 r9 r10 r11
  have r0 := hr9.cell 0 _ rfl; have r1 := hr9.cell 1 _ rfl; have r2 := hr9.cell 2 _ rfl; have r3 := hr9.cell 3 _ rfl; have r4 := hr9.cell 4 _ rfl; have r5 := hr9.cell 5 _ rfl; have r6 := hr9.cell 6 _ rfl; have r7 := hr9.cell 7 _ rfl; have r8 := hr9.cell 8 _ rfl; have r9 := hr9.cell 9 _ rfl; have r10 := hr9.cell 10 _ rfl; have r11 := hr9.cell 11 _ rfl
  exact bodyPost_ret (v := .tuple #[.agg #[.int .i64 0, .int .i64 0, .int .i64 0, .int .i64 0, .int .i64 0, .int .i64 0, .int .i64 0, .bool false, .int .i64 0, .bool false, .slice none 0 0, .slice none 0 0], .int .i64 3]) (by simp [results, Tryd.results12, go_sem, r0, r1, r2, r3, r4, r5, r6, r7, r8, r9, r10, r11]) rfl ⟨rfl, hb9⟩
end Go.Proofs.YtcnfnimgpiaamaaDoor
