/-
Contracts of functions of this seat.
-/
import Derived.Test.YtcnfnimgpiaamaaDoorRows
import Derived.WalkKit
import Derived.ProofKit
import Derived.OpenShut
import Derived.Test.YtcnfnimgpiaamaaDoorSg4
namespace Go.Proofs.YtcnfnimgpiaamaaDoor
open Go.ChangeShapes Go.WideShapes Go.ChangeAt Go.RowKit
set_option linter.unusedVariables false
set_option maxRecDepth 100000
/-- What the options tell so far. -/
structure OSt where
  m : Int
  hs : Bool
  sc : Int
  so : Bool
  L : List Int
/-- The first k stretches in an option's value. -/
def skL (v : List Int) (k : Nat) : List Int := (List.range (2 * k)).map (fun j => tnum ((v.drop (4 * j)).take 4))
/-- One option. -/
def opt1 (k : Int) (v : List Int) (s : OSt) : Option OSt :=
  if k = 2 then (if v.length = 2 then some { s with m := tnum v } else none)
  else if k = 3 then (if v.length = 1 then some { s with hs := true, sc := if 14 < v.getD 0 0 then 14 else v.getD 0 0 } else none)
  else if k = 4 then (if v.length = 0 then some { s with so := true } else none)
  else if k = 5 then (if v.length = 8 ∨ v.length = 16 ∨ v.length = 24 ∨ v.length = 32 then some { s with L := skL v (min 3 (v.length / 8)) } else none)
  else some s
theorem gsets {W W' : World} {b : Nat} (h : W.grownBy W' (some b)) (i : Nat) (u : Value) : W.grownBy (W'.setCell ⟨b, i, none⟩ u) (some b) :=
  ⟨h.os, h.tape, h.output, by simpa using h.size, fun k hk hn => by rw [heap_setCell_other W' ⟨b, i, none⟩ k u (fun e => hn (by simp [e]))]; exact h.block k hk hn⟩
theorem grown_refls (w : World) (r : Option Nat) : w.grownBy w r := ⟨rfl, rfl, rfl, Nat.le_refl _, fun _ _ _ => rfl⟩
theorem set12g (W : World) (b : Nat) (u0 u1 u2 u3 u4 u5 u6 u7 u8 u9 u10 u11 : Value) : W.grownBy ((((((((((((W.setCell ⟨b, 0, none⟩ u0).setCell ⟨b, 1, none⟩ u1).setCell ⟨b, 2, none⟩ u2).setCell ⟨b, 3, none⟩ u3).setCell ⟨b, 4, none⟩ u4).setCell ⟨b, 5, none⟩ u5).setCell ⟨b, 6, none⟩ u6).setCell ⟨b, 7, none⟩ u7).setCell ⟨b, 8, none⟩ u8).setCell ⟨b, 9, none⟩ u9).setCell ⟨b, 10, none⟩ u10).setCell ⟨b, 11, none⟩ u11) (some b) := (gsets (gsets (gsets (gsets (gsets (gsets (gsets (gsets (gsets (gsets (gsets (gsets (grown_refls W _) 0 u0) 1 u1) 2 u2) 3 u3) 4 u4) 5 u5) 6 u6) 7 u7) 8 u8) 9 u9) 10 u10) 11 u11)
theorem HoldV.putcs {w : World} {H T : Nat} {vs : Array Value} (h : HoldV w H vs T) (i : Nat) (y : Value) : HoldV (w.setCell ⟨H, i, none⟩ y) H (vs.setIfInBounds i y) T := heap_setCell_same w H i _ _ y h
theorem HoldV.set12 {W : World} {b T : Nat} {v0 v1 v2 v3 v4 v5 v6 v7 v8 v9 v10 v11 : Value} (h : HoldV W b #[v0, v1, v2, v3, v4, v5, v6, v7, v8, v9, v10, v11] T) (u0 u1 u2 u3 u4 u5 u6 u7 u8 u9 u10 u11 : Value) : HoldV ((((((((((((W.setCell ⟨b, 0, none⟩ u0).setCell ⟨b, 1, none⟩ u1).setCell ⟨b, 2, none⟩ u2).setCell ⟨b, 3, none⟩ u3).setCell ⟨b, 4, none⟩ u4).setCell ⟨b, 5, none⟩ u5).setCell ⟨b, 6, none⟩ u6).setCell ⟨b, 7, none⟩ u7).setCell ⟨b, 8, none⟩ u8).setCell ⟨b, 9, none⟩ u9).setCell ⟨b, 10, none⟩ u10).setCell ⟨b, 11, none⟩ u11) b #[u0, u1, u2, u3, u4, u5, u6, u7, u8, u9, u10, u11] T := by
  have k := ((((((((((((h.putcs 0 u0).putcs 1 u1).putcs 2 u2).putcs 3 u3).putcs 4 u4).putcs 5 u5).putcs 6 u6).putcs 7 u7).putcs 8 u8).putcs 9 u9).putcs 10 u10).putcs 11 u11)
  simp only [List.setIfInBounds_toArray, List.set_cons_zero, List.set_cons_succ] at k
  exact k
theorem ret12 {W : World} {b T : Nat} {v0 v1 v2 v3 v4 v5 v6 v7 v8 v9 v10 v11 : Value} (h : HoldV W b #[v0, v1, v2, v3, v4, v5, v6, v7, v8, v9, v10, v11] T) {u0 u1 u2 u3 u4 u5 u6 u7 u8 u9 u10 u11 : Value} {P : World → Prop} (k : ∀ W2, HoldV W2 b #[u0, u1, u2, u3, u4, u5, u6, u7, u8, u9, u10, u11] T → W.grownBy W2 (some b) → P W2) : P ((((((((((((W.setCell ⟨b, 0, none⟩ u0).setCell ⟨b, 1, none⟩ u1).setCell ⟨b, 2, none⟩ u2).setCell ⟨b, 3, none⟩ u3).setCell ⟨b, 4, none⟩ u4).setCell ⟨b, 5, none⟩ u5).setCell ⟨b, 6, none⟩ u6).setCell ⟨b, 7, none⟩ u7).setCell ⟨b, 8, none⟩ u8).setCell ⟨b, 9, none⟩ u9).setCell ⟨b, 10, none⟩ u10).setCell ⟨b, 11, none⟩ u11) := k _ (h.set12 u0 u1 u2 u3 u4 u5 u6 u7 u8 u9 u10 u11) (set12g W b u0 u1 u2 u3 u4 u5 u6 u7 u8 u9 u10 u11)
theorem cell_far (W : World) (p q : Addr) (y : Value) (h : p.block ≠ q.block) : (W.setCell q y).cell? p = W.cell? p := by simp [World.cell?, heap_setCell_other W q p.block y h]
theorem HoldV.set1s {w : World} {H T : Nat} {vs : Array Value} (h : HoldV w H vs T) (i : Nat) (y : Value) : HoldV (w.setCell ⟨H, i, none⟩ y) H (vs.setIfInBounds i y) T := heap_setCell_same w H i _ _ y h
theorem HoldV.fars {w : World} {H T : Nat} {vs : Array Value} (h : HoldV w H vs T) (X i : Nat) (y : Value) (hX : X ≠ H) : HoldV (w.setCell ⟨X, i, none⟩ y) H vs T := (heap_setCell_other w ⟨X, i, none⟩ H y (fun e => hX e.symm)).trans h
set_option maxHeartbeats 4000000 in
theorem l11Opt_bad2 (x0 x1 x2 x3 x4 x5 x6 : Int) (x7 : Bool) (x8 : Int) (x9 : Bool) (a10 : Option Addr) (n10 c10 : Nat) (a11 : Option Addr) (n11 c11 : Nat) (a : Option Addr) (n cap : Nat) (zs : List Int) (w : World) (hn : zs.length = n) (ha : Arr w a zs) (hcap : n ≤ cap) (h2 : 2 ≤ n) (hm : n ≤ 255) (hk : zs.getD 0 0 = 2) (hb : n ≠ 4) :
    Calls Tryd.prog 84 #[.agg #[.int .i64 x0, .int .i64 x1, .int .i64 x2, .int .i64 x3, .int .i64 x4, .int .i64 x5, .int .i64 x6, .bool x7, .int .i64 x8, .bool x9, .slice a10 n10 c10, .slice a11 n11 c11], .slice a n cap] w fun e w' => e = .returned (.tuple #[.agg #[.int .i64 x0, .int .i64 x1, .int .i64 x2, .int .i64 x3, .int .i64 x4, .int .i64 x5, .int .i64 x6, .bool x7, .int .i64 x8, .bool x9, .slice a10 n10 c10, .slice a11 n11 c11], .bool false]) ∧ Below w.heap.size w w' := by
  obtain ⟨hb0, hP, hQ⟩ := two_allocs w (.cells #[.int .i64 x0, .int .i64 x1, .int .i64 x2, .int .i64 x3, .int .i64 x4, .int .i64 x5, .int .i64 x6, .bool x7, .int .i64 x8, .bool x9, .slice a10 n10 c10, .slice a11 n11 c11] sgT) (.cells #[.int .i64 0, .int .i64 0, .int .i64 0, .int .i64 0, .int .i64 0, .int .i64 0, .int .i64 0, .bool false, .int .i64 0, .bool false, .slice none 0 0, .slice none 0 0] sgT)
  have HB : Hid (HoldV ((w.alloc (.cells #[.int .i64 x0, .int .i64 x1, .int .i64 x2, .int .i64 x3, .int .i64 x4, .int .i64 x5, .int .i64 x6, .bool x7, .int .i64 x8, .bool x9, .slice a10 n10 c10, .slice a11 n11 c11] sgT)).alloc (.cells #[.int .i64 0, .int .i64 0, .int .i64 0, .int .i64 0, .int .i64 0, .int .i64 0, .int .i64 0, .bool false, .int .i64 0, .bool false, .slice none 0 0, .slice none 0 0] sgT)) w.heap.size #[.int .i64 x0, .int .i64 x1, .int .i64 x2, .int .i64 x3, .int .i64 x4, .int .i64 x5, .int .i64 x6, .bool x7, .int .i64 x8, .bool x9, .slice a10 n10 c10, .slice a11 n11 c11] sgT) := hide hP
  have HR : Hid (HoldV ((w.alloc (.cells #[.int .i64 x0, .int .i64 x1, .int .i64 x2, .int .i64 x3, .int .i64 x4, .int .i64 x5, .int .i64 x6, .bool x7, .int .i64 x8, .bool x9, .slice a10 n10 c10, .slice a11 n11 c11] sgT)).alloc (.cells #[.int .i64 0, .int .i64 0, .int .i64 0, .int .i64 0, .int .i64 0, .int .i64 0, .int .i64 0, .bool false, .int .i64 0, .bool false, .slice none 0 0, .slice none 0 0] sgT)) (w.heap.size + 1) #[.int .i64 0, .int .i64 0, .int .i64 0, .int .i64 0, .int .i64 0, .int .i64 0, .int .i64 0, .bool false, .int .i64 0, .bool false, .slice none 0 0, .slice none 0 0] sgT) := hide hQ
  have HW := hide hb0
  have HA := hide (ha.below hb0 (Nat.le_refl _))
  have HN := hide hn
  obtain ⟨b, off, rfl, hbw, _⟩ := ha.2 0 (by omega)
  obtain ⟨_, _, ee, _, hc0⟩ := HA.out.2 0 (by omega)
  injection ee with ee; injection ee with ee1 ee2; subst ee1 ee2
  rw [Nat.add_zero] at hc0
  have k0 := HB.out.cell 0 _ rfl; have k1 := HB.out.cell 1 _ rfl; have k2 := HB.out.cell 2 _ rfl; have k3 := HB.out.cell 3 _ rfl; have k4 := HB.out.cell 4 _ rfl; have k5 := HB.out.cell 5 _ rfl; have k6 := HB.out.cell 6 _ rfl; have k7 := HB.out.cell 7 _ rfl; have k8 := HB.out.cell 8 _ rfl; have k9 := HB.out.cell 9 _ rfl; have k10 := HB.out.cell 10 _ rfl; have k11 := HB.out.cell 11 _ rfl
  have r0 := HR.out.cell 0 _ rfl; have r1 := HR.out.cell 1 _ rfl; have r2 := HR.out.cell 2 _ rfl; have r3 := HR.out.cell 3 _ rfl; have r4 := HR.out.cell 4 _ rfl; have r5 := HR.out.cell 5 _ rfl; have r6 := HR.out.cell 6 _ rfl; have r7 := HR.out.cell 7 _ rfl; have r8 := HR.out.cell 8 _ rfl; have r9 := HR.out.cell 9 _ rfl; have r10 := HR.out.cell 10 _ rfl; have r11 := HR.out.cell 11 _ rfl
  have kf := HB.out.frozen; have rf := HR.out.frozen
  clear hP hQ hb0 ha hn
  have h0 : 0 < n := by omega
  rw [hk] at hc0
  have hq : ((n : Int) != 4) = true := by simp; omega
  go_enter Tryd.func84, Tryd.ntmps84
  go_upto_region 1 with fail
  generalize ((w.alloc (.cells #[.int .i64 x0, .int .i64 x1, .int .i64 x2, .int .i64 x3, .int .i64 x4, .int .i64 x5, .int .i64 x6, .bool x7, .int .i64 x8, .bool x9, .slice a10 n10 c10, .slice a11 n11 c11] sgT)).alloc (.cells #[.int .i64 0, .int .i64 0, .int .i64 0, .int .i64 0, .int .i64 0, .int .i64 0, .int .i64 0, .bool false, .int .i64 0, .bool false, .slice none 0 0, .slice none 0 0] sgT)) = W at *
  go_wp2_with fail
  refine ret12 (P := fun X => bodyPost Tryd.prog Tryd.f84 _ _ _ X) HR.out ?_
  intro W9 hr9 hg9
  have hb9 := HW.out.grown hg9 HW.out.size (fun k hk => by cases hk; omega)
  clear hg9 k0 r0 k1 r1 k2 r2 k3 r3 k4 r4 k5 r5 k6 r6 k7 r7 k8 r8 k9 r9 k10 r10 k11 r11 kf rf
  have r0 := hr9.cell 0 _ rfl; have r1 := hr9.cell 1 _ rfl; have r2 := hr9.cell 2 _ rfl; have r3 := hr9.cell 3 _ rfl; have r4 := hr9.cell 4 _ rfl; have r5 := hr9.cell 5 _ rfl; have r6 := hr9.cell 6 _ rfl; have r7 := hr9.cell 7 _ rfl; have r8 := hr9.cell 8 _ rfl; have r9 := hr9.cell 9 _ rfl; have r10 := hr9.cell 10 _ rfl; have r11 := hr9.cell 11 _ rfl
  refine bodyPost_ret (v := .tuple #[.agg #[.int .i64 x0, .int .i64 x1, .int .i64 x2, .int .i64 x3, .int .i64 x4, .int .i64 x5, .int .i64 x6, .bool x7, .int .i64 x8, .bool x9, .slice a10 n10 c10, .slice a11 n11 c11], .bool false]) (by simp [results, Tryd.results84, go_sem, r0, r1, r2, r3, r4, r5, r6, r7, r8, r9, r10, r11]) rfl ?_
  exact ⟨rfl, hb9⟩
set_option maxHeartbeats 4000000 in
theorem l11Opt_bad3 (x0 x1 x2 x3 x4 x5 x6 : Int) (x7 : Bool) (x8 : Int) (x9 : Bool) (a10 : Option Addr) (n10 c10 : Nat) (a11 : Option Addr) (n11 c11 : Nat) (a : Option Addr) (n cap : Nat) (zs : List Int) (w : World) (hn : zs.length = n) (ha : Arr w a zs) (hcap : n ≤ cap) (h2 : 2 ≤ n) (hm : n ≤ 255) (hk : zs.getD 0 0 = 3) (hb : n ≠ 3) :
    Calls Tryd.prog 84 #[.agg #[.int .i64 x0, .int .i64 x1, .int .i64 x2, .int .i64 x3, .int .i64 x4, .int .i64 x5, .int .i64 x6, .bool x7, .int .i64 x8, .bool x9, .slice a10 n10 c10, .slice a11 n11 c11], .slice a n cap] w fun e w' => e = .returned (.tuple #[.agg #[.int .i64 x0, .int .i64 x1, .int .i64 x2, .int .i64 x3, .int .i64 x4, .int .i64 x5, .int .i64 x6, .bool x7, .int .i64 x8, .bool x9, .slice a10 n10 c10, .slice a11 n11 c11], .bool false]) ∧ Below w.heap.size w w' := by
  obtain ⟨hb0, hP, hQ⟩ := two_allocs w (.cells #[.int .i64 x0, .int .i64 x1, .int .i64 x2, .int .i64 x3, .int .i64 x4, .int .i64 x5, .int .i64 x6, .bool x7, .int .i64 x8, .bool x9, .slice a10 n10 c10, .slice a11 n11 c11] sgT) (.cells #[.int .i64 0, .int .i64 0, .int .i64 0, .int .i64 0, .int .i64 0, .int .i64 0, .int .i64 0, .bool false, .int .i64 0, .bool false, .slice none 0 0, .slice none 0 0] sgT)
  have HB : Hid (HoldV ((w.alloc (.cells #[.int .i64 x0, .int .i64 x1, .int .i64 x2, .int .i64 x3, .int .i64 x4, .int .i64 x5, .int .i64 x6, .bool x7, .int .i64 x8, .bool x9, .slice a10 n10 c10, .slice a11 n11 c11] sgT)).alloc (.cells #[.int .i64 0, .int .i64 0, .int .i64 0, .int .i64 0, .int .i64 0, .int .i64 0, .int .i64 0, .bool false, .int .i64 0, .bool false, .slice none 0 0, .slice none 0 0] sgT)) w.heap.size #[.int .i64 x0, .int .i64 x1, .int .i64 x2, .int .i64 x3, .int .i64 x4, .int .i64 x5, .int .i64 x6, .bool x7, .int .i64 x8, .bool x9, .slice a10 n10 c10, .slice a11 n11 c11] sgT) := hide hP
  have HR : Hid (HoldV ((w.alloc (.cells #[.int .i64 x0, .int .i64 x1, .int .i64 x2, .int .i64 x3, .int .i64 x4, .int .i64 x5, .int .i64 x6, .bool x7, .int .i64 x8, .bool x9, .slice a10 n10 c10, .slice a11 n11 c11] sgT)).alloc (.cells #[.int .i64 0, .int .i64 0, .int .i64 0, .int .i64 0, .int .i64 0, .int .i64 0, .int .i64 0, .bool false, .int .i64 0, .bool false, .slice none 0 0, .slice none 0 0] sgT)) (w.heap.size + 1) #[.int .i64 0, .int .i64 0, .int .i64 0, .int .i64 0, .int .i64 0, .int .i64 0, .int .i64 0, .bool false, .int .i64 0, .bool false, .slice none 0 0, .slice none 0 0] sgT) := hide hQ
  have HW := hide hb0
  have HA := hide (ha.below hb0 (Nat.le_refl _))
  have HN := hide hn
  obtain ⟨b, off, rfl, hbw, _⟩ := ha.2 0 (by omega)
  obtain ⟨_, _, ee, _, hc0⟩ := HA.out.2 0 (by omega)
  injection ee with ee; injection ee with ee1 ee2; subst ee1 ee2
  rw [Nat.add_zero] at hc0
  have k0 := HB.out.cell 0 _ rfl; have k1 := HB.out.cell 1 _ rfl; have k2 := HB.out.cell 2 _ rfl; have k3 := HB.out.cell 3 _ rfl; have k4 := HB.out.cell 4 _ rfl; have k5 := HB.out.cell 5 _ rfl; have k6 := HB.out.cell 6 _ rfl; have k7 := HB.out.cell 7 _ rfl; have k8 := HB.out.cell 8 _ rfl; have k9 := HB.out.cell 9 _ rfl; have k10 := HB.out.cell 10 _ rfl; have k11 := HB.out.cell 11 _ rfl
  have r0 := HR.out.cell 0 _ rfl; have r1 := HR.out.cell 1 _ rfl; have r2 := HR.out.cell 2 _ rfl; have r3 := HR.out.cell 3 _ rfl; have r4 := HR.out.cell 4 _ rfl; have r5 := HR.out.cell 5 _ rfl; have r6 := HR.out.cell 6 _ rfl; have r7 := HR.out.cell 7 _ rfl; have r8 := HR.out.cell 8 _ rfl; have r9 := HR.out.cell 9 _ rfl; have r10 := HR.out.cell 10 _ rfl; have r11 := HR.out.cell 11 _ rfl
  have kf := HB.out.frozen; have rf := HR.out.frozen
  clear hP hQ hb0 ha hn
  have h0 : 0 < n := by omega
  rw [hk] at hc0
  have hq : ((n : Int) != 3) = true := by simp; omega
  go_enter Tryd.func84, Tryd.ntmps84
  go_upto_region 1 with fail
  generalize ((w.alloc (.cells #[.int .i64 x0, .int .i64 x1, .int .i64 x2, .int .i64 x3, .int .i64 x4, .int .i64 x5, .int .i64 x6, .bool x7, .int .i64 x8, .bool x9, .slice a10 n10 c10, .slice a11 n11 c11] sgT)).alloc (.cells #[.int .i64 0, .int .i64 0, .int .i64 0, .int .i64 0, .int .i64 0, .int .i64 0, .int .i64 0, .bool false, .int .i64 0, .bool false, .slice none 0 0, .slice none 0 0] sgT)) = W at *
  go_wp2_with fail
  refine ret12 (P := fun X => bodyPost Tryd.prog Tryd.f84 _ _ _ X) HR.out ?_
  intro W9 hr9 hg9
  have hb9 := HW.out.grown hg9 HW.out.size (fun k hk => by cases hk; omega)
  clear hg9 k0 r0 k1 r1 k2 r2 k3 r3 k4 r4 k5 r5 k6 r6 k7 r7 k8 r8 k9 r9 k10 r10 k11 r11 kf rf
  have r0 := hr9.cell 0 _ rfl; have r1 := hr9.cell 1 _ rfl; have r2 := hr9.cell 2 _ rfl; have r3 := hr9.cell 3 _ rfl; have r4 := hr9.cell 4 _ rfl; have r5 := hr9.cell 5 _ rfl; have r6 := hr9.cell 6 _ rfl; have r7 := hr9.cell 7 _ rfl; have r8 := hr9.cell 8 _ rfl; have r9 := hr9.cell 9 _ rfl; have r10 := hr9.cell 10 _ rfl; have r11 := hr9.cell 11 _ rfl
  refine bodyPost_ret (v := .tuple #[.agg #[.int .i64 x0, .int .i64 x1, .int .i64 x2, .int .i64 x3, .int .i64 x4, .int .i64 x5, .int .i64 x6, .bool x7, .int .i64 x8, .bool x9, .slice a10 n10 c10, .slice a11 n11 c11], .bool false]) (by simp [results, Tryd.results84, go_sem, r0, r1, r2, r3, r4, r5, r6, r7, r8, r9, r10, r11]) rfl ?_
  exact ⟨rfl, hb9⟩
set_option maxHeartbeats 4000000 in
theorem l11Opt_bad4 (x0 x1 x2 x3 x4 x5 x6 : Int) (x7 : Bool) (x8 : Int) (x9 : Bool) (a10 : Option Addr) (n10 c10 : Nat) (a11 : Option Addr) (n11 c11 : Nat) (a : Option Addr) (n cap : Nat) (zs : List Int) (w : World) (hn : zs.length = n) (ha : Arr w a zs) (hcap : n ≤ cap) (h2 : 2 ≤ n) (hm : n ≤ 255) (hk : zs.getD 0 0 = 4) (hb : n ≠ 2) :
    Calls Tryd.prog 84 #[.agg #[.int .i64 x0, .int .i64 x1, .int .i64 x2, .int .i64 x3, .int .i64 x4, .int .i64 x5, .int .i64 x6, .bool x7, .int .i64 x8, .bool x9, .slice a10 n10 c10, .slice a11 n11 c11], .slice a n cap] w fun e w' => e = .returned (.tuple #[.agg #[.int .i64 x0, .int .i64 x1, .int .i64 x2, .int .i64 x3, .int .i64 x4, .int .i64 x5, .int .i64 x6, .bool x7, .int .i64 x8, .bool x9, .slice a10 n10 c10, .slice a11 n11 c11], .bool false]) ∧ Below w.heap.size w w' := by
  obtain ⟨hb0, hP, hQ⟩ := two_allocs w (.cells #[.int .i64 x0, .int .i64 x1, .int .i64 x2, .int .i64 x3, .int .i64 x4, .int .i64 x5, .int .i64 x6, .bool x7, .int .i64 x8, .bool x9, .slice a10 n10 c10, .slice a11 n11 c11] sgT) (.cells #[.int .i64 0, .int .i64 0, .int .i64 0, .int .i64 0, .int .i64 0, .int .i64 0, .int .i64 0, .bool false, .int .i64 0, .bool false, .slice none 0 0, .slice none 0 0] sgT)
  have HB : Hid (HoldV ((w.alloc (.cells #[.int .i64 x0, .int .i64 x1, .int .i64 x2, .int .i64 x3, .int .i64 x4, .int .i64 x5, .int .i64 x6, .bool x7, .int .i64 x8, .bool x9, .slice a10 n10 c10, .slice a11 n11 c11] sgT)).alloc (.cells #[.int .i64 0, .int .i64 0, .int .i64 0, .int .i64 0, .int .i64 0, .int .i64 0, .int .i64 0, .bool false, .int .i64 0, .bool false, .slice none 0 0, .slice none 0 0] sgT)) w.heap.size #[.int .i64 x0, .int .i64 x1, .int .i64 x2, .int .i64 x3, .int .i64 x4, .int .i64 x5, .int .i64 x6, .bool x7, .int .i64 x8, .bool x9, .slice a10 n10 c10, .slice a11 n11 c11] sgT) := hide hP
  have HR : Hid (HoldV ((w.alloc (.cells #[.int .i64 x0, .int .i64 x1, .int .i64 x2, .int .i64 x3, .int .i64 x4, .int .i64 x5, .int .i64 x6, .bool x7, .int .i64 x8, .bool x9, .slice a10 n10 c10, .slice a11 n11 c11] sgT)).alloc (.cells #[.int .i64 0, .int .i64 0, .int .i64 0, .int .i64 0, .int .i64 0, .int .i64 0, .int .i64 0, .bool false, .int .i64 0, .bool false, .slice none 0 0, .slice none 0 0] sgT)) (w.heap.size + 1) #[.int .i64 0, .int .i64 0, .int .i64 0, .int .i64 0, .int .i64 0, .int .i64 0, .int .i64 0, .bool false, .int .i64 0, .bool false, .slice none 0 0, .slice none 0 0] sgT) := hide hQ
  have HW := hide hb0
  have HA := hide (ha.below hb0 (Nat.le_refl _))
  have HN := hide hn
  obtain ⟨b, off, rfl, hbw, _⟩ := ha.2 0 (by omega)
  obtain ⟨_, _, ee, _, hc0⟩ := HA.out.2 0 (by omega)
  injection ee with ee; injection ee with ee1 ee2; subst ee1 ee2
  rw [Nat.add_zero] at hc0
  have k0 := HB.out.cell 0 _ rfl; have k1 := HB.out.cell 1 _ rfl; have k2 := HB.out.cell 2 _ rfl; have k3 := HB.out.cell 3 _ rfl; have k4 := HB.out.cell 4 _ rfl; have k5 := HB.out.cell 5 _ rfl; have k6 := HB.out.cell 6 _ rfl; have k7 := HB.out.cell 7 _ rfl; have k8 := HB.out.cell 8 _ rfl; have k9 := HB.out.cell 9 _ rfl; have k10 := HB.out.cell 10 _ rfl; have k11 := HB.out.cell 11 _ rfl
  have r0 := HR.out.cell 0 _ rfl; have r1 := HR.out.cell 1 _ rfl; have r2 := HR.out.cell 2 _ rfl; have r3 := HR.out.cell 3 _ rfl; have r4 := HR.out.cell 4 _ rfl; have r5 := HR.out.cell 5 _ rfl; have r6 := HR.out.cell 6 _ rfl; have r7 := HR.out.cell 7 _ rfl; have r8 := HR.out.cell 8 _ rfl; have r9 := HR.out.cell 9 _ rfl; have r10 := HR.out.cell 10 _ rfl; have r11 := HR.out.cell 11 _ rfl
  have kf := HB.out.frozen; have rf := HR.out.frozen
  clear hP hQ hb0 ha hn
  have h0 : 0 < n := by omega
  rw [hk] at hc0
  have hq : ((n : Int) != 2) = true := by simp; omega
  go_enter Tryd.func84, Tryd.ntmps84
  go_upto_region 1 with fail
  generalize ((w.alloc (.cells #[.int .i64 x0, .int .i64 x1, .int .i64 x2, .int .i64 x3, .int .i64 x4, .int .i64 x5, .int .i64 x6, .bool x7, .int .i64 x8, .bool x9, .slice a10 n10 c10, .slice a11 n11 c11] sgT)).alloc (.cells #[.int .i64 0, .int .i64 0, .int .i64 0, .int .i64 0, .int .i64 0, .int .i64 0, .int .i64 0, .bool false, .int .i64 0, .bool false, .slice none 0 0, .slice none 0 0] sgT)) = W at *
  go_wp2_with fail
  refine ret12 (P := fun X => bodyPost Tryd.prog Tryd.f84 _ _ _ X) HR.out ?_
  intro W9 hr9 hg9
  have hb9 := HW.out.grown hg9 HW.out.size (fun k hk => by cases hk; omega)
  clear hg9 k0 r0 k1 r1 k2 r2 k3 r3 k4 r4 k5 r5 k6 r6 k7 r7 k8 r8 k9 r9 k10 r10 k11 r11 kf rf
  have r0 := hr9.cell 0 _ rfl; have r1 := hr9.cell 1 _ rfl; have r2 := hr9.cell 2 _ rfl; have r3 := hr9.cell 3 _ rfl; have r4 := hr9.cell 4 _ rfl; have r5 := hr9.cell 5 _ rfl; have r6 := hr9.cell 6 _ rfl; have r7 := hr9.cell 7 _ rfl; have r8 := hr9.cell 8 _ rfl; have r9 := hr9.cell 9 _ rfl; have r10 := hr9.cell 10 _ rfl; have r11 := hr9.cell 11 _ rfl
  refine bodyPost_ret (v := .tuple #[.agg #[.int .i64 x0, .int .i64 x1, .int .i64 x2, .int .i64 x3, .int .i64 x4, .int .i64 x5, .int .i64 x6, .bool x7, .int .i64 x8, .bool x9, .slice a10 n10 c10, .slice a11 n11 c11], .bool false]) (by simp [results, Tryd.results84, go_sem, r0, r1, r2, r3, r4, r5, r6, r7, r8, r9, r10, r11]) rfl ?_
  exact ⟨rfl, hb9⟩
set_option maxHeartbeats 4000000 in
theorem l11Opt_bad5a (x0 x1 x2 x3 x4 x5 x6 : Int) (x7 : Bool) (x8 : Int) (x9 : Bool) (a10 : Option Addr) (n10 c10 : Nat) (a11 : Option Addr) (n11 c11 : Nat) (a : Option Addr) (n cap : Nat) (zs : List Int) (w : World) (hn : zs.length = n) (ha : Arr w a zs) (hcap : n ≤ cap) (h2 : 2 ≤ n) (hm : n ≤ 255) (hk : zs.getD 0 0 = 5) (hb : n < 10) :
    Calls Tryd.prog 84 #[.agg #[.int .i64 x0, .int .i64 x1, .int .i64 x2, .int .i64 x3, .int .i64 x4, .int .i64 x5, .int .i64 x6, .bool x7, .int .i64 x8, .bool x9, .slice a10 n10 c10, .slice a11 n11 c11], .slice a n cap] w fun e w' => e = .returned (.tuple #[.agg #[.int .i64 x0, .int .i64 x1, .int .i64 x2, .int .i64 x3, .int .i64 x4, .int .i64 x5, .int .i64 x6, .bool x7, .int .i64 x8, .bool x9, .slice a10 n10 c10, .slice a11 n11 c11], .bool false]) ∧ Below w.heap.size w w' := by
  obtain ⟨hb0, hP, hQ⟩ := two_allocs w (.cells #[.int .i64 x0, .int .i64 x1, .int .i64 x2, .int .i64 x3, .int .i64 x4, .int .i64 x5, .int .i64 x6, .bool x7, .int .i64 x8, .bool x9, .slice a10 n10 c10, .slice a11 n11 c11] sgT) (.cells #[.int .i64 0, .int .i64 0, .int .i64 0, .int .i64 0, .int .i64 0, .int .i64 0, .int .i64 0, .bool false, .int .i64 0, .bool false, .slice none 0 0, .slice none 0 0] sgT)
  have HB : Hid (HoldV ((w.alloc (.cells #[.int .i64 x0, .int .i64 x1, .int .i64 x2, .int .i64 x3, .int .i64 x4, .int .i64 x5, .int .i64 x6, .bool x7, .int .i64 x8, .bool x9, .slice a10 n10 c10, .slice a11 n11 c11] sgT)).alloc (.cells #[.int .i64 0, .int .i64 0, .int .i64 0, .int .i64 0, .int .i64 0, .int .i64 0, .int .i64 0, .bool false, .int .i64 0, .bool false, .slice none 0 0, .slice none 0 0] sgT)) w.heap.size #[.int .i64 x0, .int .i64 x1, .int .i64 x2, .int .i64 x3, .int .i64 x4, .int .i64 x5, .int .i64 x6, .bool x7, .int .i64 x8, .bool x9, .slice a10 n10 c10, .slice a11 n11 c11] sgT) := hide hP
  have HR : Hid (HoldV ((w.alloc (.cells #[.int .i64 x0, .int .i64 x1, .int .i64 x2, .int .i64 x3, .int .i64 x4, .int .i64 x5, .int .i64 x6, .bool x7, .int .i64 x8, .bool x9, .slice a10 n10 c10, .slice a11 n11 c11] sgT)).alloc (.cells #[.int .i64 0, .int .i64 0, .int .i64 0, .int .i64 0, .int .i64 0, .int .i64 0, .int .i64 0, .bool false, .int .i64 0, .bool false, .slice none 0 0, .slice none 0 0] sgT)) (w.heap.size + 1) #[.int .i64 0, .int .i64 0, .int .i64 0, .int .i64 0, .int .i64 0, .int .i64 0, .int .i64 0, .bool false, .int .i64 0, .bool false, .slice none 0 0, .slice none 0 0] sgT) := hide hQ
  have HW := hide hb0
  have HA := hide (ha.below hb0 (Nat.le_refl _))
  have HN := hide hn
  obtain ⟨b, off, rfl, hbw, _⟩ := ha.2 0 (by omega)
  obtain ⟨_, _, ee, _, hc0⟩ := HA.out.2 0 (by omega)
  injection ee with ee; injection ee with ee1 ee2; subst ee1 ee2
  rw [Nat.add_zero] at hc0
  have k0 := HB.out.cell 0 _ rfl; have k1 := HB.out.cell 1 _ rfl; have k2 := HB.out.cell 2 _ rfl; have k3 := HB.out.cell 3 _ rfl; have k4 := HB.out.cell 4 _ rfl; have k5 := HB.out.cell 5 _ rfl; have k6 := HB.out.cell 6 _ rfl; have k7 := HB.out.cell 7 _ rfl; have k8 := HB.out.cell 8 _ rfl; have k9 := HB.out.cell 9 _ rfl; have k10 := HB.out.cell 10 _ rfl; have k11 := HB.out.cell 11 _ rfl
  have r0 := HR.out.cell 0 _ rfl; have r1 := HR.out.cell 1 _ rfl; have r2 := HR.out.cell 2 _ rfl; have r3 := HR.out.cell 3 _ rfl; have r4 := HR.out.cell 4 _ rfl; have r5 := HR.out.cell 5 _ rfl; have r6 := HR.out.cell 6 _ rfl; have r7 := HR.out.cell 7 _ rfl; have r8 := HR.out.cell 8 _ rfl; have r9 := HR.out.cell 9 _ rfl; have r10 := HR.out.cell 10 _ rfl; have r11 := HR.out.cell 11 _ rfl
  have kf := HB.out.frozen; have rf := HR.out.frozen
  clear hP hQ hb0 ha hn
  have h0 : 0 < n := by omega
  rw [hk] at hc0
  have hq : (n : Int) < 10 := by omega
  go_enter Tryd.func84, Tryd.ntmps84
  go_upto_region 1 with fail
  generalize ((w.alloc (.cells #[.int .i64 x0, .int .i64 x1, .int .i64 x2, .int .i64 x3, .int .i64 x4, .int .i64 x5, .int .i64 x6, .bool x7, .int .i64 x8, .bool x9, .slice a10 n10 c10, .slice a11 n11 c11] sgT)).alloc (.cells #[.int .i64 0, .int .i64 0, .int .i64 0, .int .i64 0, .int .i64 0, .int .i64 0, .int .i64 0, .bool false, .int .i64 0, .bool false, .slice none 0 0, .slice none 0 0] sgT)) = W at *
  go_wp2_with fail
  refine ret12 (P := fun X => bodyPost Tryd.prog Tryd.f84 _ _ _ X) HR.out ?_
  intro W9 hr9 hg9
  have hb9 := HW.out.grown hg9 HW.out.size (fun k hk => by cases hk; omega)
  clear hg9 k0 r0 k1 r1 k2 r2 k3 r3 k4 r4 k5 r5 k6 r6 k7 r7 k8 r8 k9 r9 k10 r10 k11 r11 kf rf
  have r0 := hr9.cell 0 _ rfl; have r1 := hr9.cell 1 _ rfl; have r2 := hr9.cell 2 _ rfl; have r3 := hr9.cell 3 _ rfl; have r4 := hr9.cell 4 _ rfl; have r5 := hr9.cell 5 _ rfl; have r6 := hr9.cell 6 _ rfl; have r7 := hr9.cell 7 _ rfl; have r8 := hr9.cell 8 _ rfl; have r9 := hr9.cell 9 _ rfl; have r10 := hr9.cell 10 _ rfl; have r11 := hr9.cell 11 _ rfl
  refine bodyPost_ret (v := .tuple #[.agg #[.int .i64 x0, .int .i64 x1, .int .i64 x2, .int .i64 x3, .int .i64 x4, .int .i64 x5, .int .i64 x6, .bool x7, .int .i64 x8, .bool x9, .slice a10 n10 c10, .slice a11 n11 c11], .bool false]) (by simp [results, Tryd.results84, go_sem, r0, r1, r2, r3, r4, r5, r6, r7, r8, r9, r10, r11]) rfl ?_
  exact ⟨rfl, hb9⟩
set_option maxHeartbeats 4000000 in
theorem l11Opt_bad5b (x0 x1 x2 x3 x4 x5 x6 : Int) (x7 : Bool) (x8 : Int) (x9 : Bool) (a10 : Option Addr) (n10 c10 : Nat) (a11 : Option Addr) (n11 c11 : Nat) (a : Option Addr) (n cap : Nat) (zs : List Int) (w : World) (hn : zs.length = n) (ha : Arr w a zs) (hcap : n ≤ cap) (h2 : 2 ≤ n) (hm : n ≤ 255) (hk : zs.getD 0 0 = 5) (hb : 34 < n) :
    Calls Tryd.prog 84 #[.agg #[.int .i64 x0, .int .i64 x1, .int .i64 x2, .int .i64 x3, .int .i64 x4, .int .i64 x5, .int .i64 x6, .bool x7, .int .i64 x8, .bool x9, .slice a10 n10 c10, .slice a11 n11 c11], .slice a n cap] w fun e w' => e = .returned (.tuple #[.agg #[.int .i64 x0, .int .i64 x1, .int .i64 x2, .int .i64 x3, .int .i64 x4, .int .i64 x5, .int .i64 x6, .bool x7, .int .i64 x8, .bool x9, .slice a10 n10 c10, .slice a11 n11 c11], .bool false]) ∧ Below w.heap.size w w' := by
  obtain ⟨hb0, hP, hQ⟩ := two_allocs w (.cells #[.int .i64 x0, .int .i64 x1, .int .i64 x2, .int .i64 x3, .int .i64 x4, .int .i64 x5, .int .i64 x6, .bool x7, .int .i64 x8, .bool x9, .slice a10 n10 c10, .slice a11 n11 c11] sgT) (.cells #[.int .i64 0, .int .i64 0, .int .i64 0, .int .i64 0, .int .i64 0, .int .i64 0, .int .i64 0, .bool false, .int .i64 0, .bool false, .slice none 0 0, .slice none 0 0] sgT)
  have HB : Hid (HoldV ((w.alloc (.cells #[.int .i64 x0, .int .i64 x1, .int .i64 x2, .int .i64 x3, .int .i64 x4, .int .i64 x5, .int .i64 x6, .bool x7, .int .i64 x8, .bool x9, .slice a10 n10 c10, .slice a11 n11 c11] sgT)).alloc (.cells #[.int .i64 0, .int .i64 0, .int .i64 0, .int .i64 0, .int .i64 0, .int .i64 0, .int .i64 0, .bool false, .int .i64 0, .bool false, .slice none 0 0, .slice none 0 0] sgT)) w.heap.size #[.int .i64 x0, .int .i64 x1, .int .i64 x2, .int .i64 x3, .int .i64 x4, .int .i64 x5, .int .i64 x6, .bool x7, .int .i64 x8, .bool x9, .slice a10 n10 c10, .slice a11 n11 c11] sgT) := hide hP
  have HR : Hid (HoldV ((w.alloc (.cells #[.int .i64 x0, .int .i64 x1, .int .i64 x2, .int .i64 x3, .int .i64 x4, .int .i64 x5, .int .i64 x6, .bool x7, .int .i64 x8, .bool x9, .slice a10 n10 c10, .slice a11 n11 c11] sgT)).alloc (.cells #[.int .i64 0, .int .i64 0, .int .i64 0, .int .i64 0, .int .i64 0, .int .i64 0, .int .i64 0, .bool false, .int .i64 0, .bool false, .slice none 0 0, .slice none 0 0] sgT)) (w.heap.size + 1) #[.int .i64 0, .int .i64 0, .int .i64 0, .int .i64 0, .int .i64 0, .int .i64 0, .int .i64 0, .bool false, .int .i64 0, .bool false, .slice none 0 0, .slice none 0 0] sgT) := hide hQ
  have HW := hide hb0
  have HA := hide (ha.below hb0 (Nat.le_refl _))
  have HN := hide hn
  obtain ⟨b, off, rfl, hbw, _⟩ := ha.2 0 (by omega)
  obtain ⟨_, _, ee, _, hc0⟩ := HA.out.2 0 (by omega)
  injection ee with ee; injection ee with ee1 ee2; subst ee1 ee2
  rw [Nat.add_zero] at hc0
  have k0 := HB.out.cell 0 _ rfl; have k1 := HB.out.cell 1 _ rfl; have k2 := HB.out.cell 2 _ rfl; have k3 := HB.out.cell 3 _ rfl; have k4 := HB.out.cell 4 _ rfl; have k5 := HB.out.cell 5 _ rfl; have k6 := HB.out.cell 6 _ rfl; have k7 := HB.out.cell 7 _ rfl; have k8 := HB.out.cell 8 _ rfl; have k9 := HB.out.cell 9 _ rfl; have k10 := HB.out.cell 10 _ rfl; have k11 := HB.out.cell 11 _ rfl
  have r0 := HR.out.cell 0 _ rfl; have r1 := HR.out.cell 1 _ rfl; have r2 := HR.out.cell 2 _ rfl; have r3 := HR.out.cell 3 _ rfl; have r4 := HR.out.cell 4 _ rfl; have r5 := HR.out.cell 5 _ rfl; have r6 := HR.out.cell 6 _ rfl; have r7 := HR.out.cell 7 _ rfl; have r8 := HR.out.cell 8 _ rfl; have r9 := HR.out.cell 9 _ rfl; have r10 := HR.out.cell 10 _ rfl; have r11 := HR.out.cell 11 _ rfl
  have kf := HB.out.frozen; have rf := HR.out.frozen
  clear hP hQ hb0 ha hn
  have h0 : 0 < n := by omega
  rw [hk] at hc0
  have hq : ¬ (n : Int) < 10 := by omega
  have hq2 : (34 : Int) < (n : Int) := by omega
  go_enter Tryd.func84, Tryd.ntmps84
  go_upto_region 1 with fail
  generalize ((w.alloc (.cells #[.int .i64 x0, .int .i64 x1, .int .i64 x2, .int .i64 x3, .int .i64 x4, .int .i64 x5, .int .i64 x6, .bool x7, .int .i64 x8, .bool x9, .slice a10 n10 c10, .slice a11 n11 c11] sgT)).alloc (.cells #[.int .i64 0, .int .i64 0, .int .i64 0, .int .i64 0, .int .i64 0, .int .i64 0, .int .i64 0, .bool false, .int .i64 0, .bool false, .slice none 0 0, .slice none 0 0] sgT)) = W at *
  go_wp2_with fail
  refine ret12 (P := fun X => bodyPost Tryd.prog Tryd.f84 _ _ _ X) HR.out ?_
  intro W9 hr9 hg9
  have hb9 := HW.out.grown hg9 HW.out.size (fun k hk => by cases hk; omega)
  clear hg9 k0 r0 k1 r1 k2 r2 k3 r3 k4 r4 k5 r5 k6 r6 k7 r7 k8 r8 k9 r9 k10 r10 k11 r11 kf rf
  have r0 := hr9.cell 0 _ rfl; have r1 := hr9.cell 1 _ rfl; have r2 := hr9.cell 2 _ rfl; have r3 := hr9.cell 3 _ rfl; have r4 := hr9.cell 4 _ rfl; have r5 := hr9.cell 5 _ rfl; have r6 := hr9.cell 6 _ rfl; have r7 := hr9.cell 7 _ rfl; have r8 := hr9.cell 8 _ rfl; have r9 := hr9.cell 9 _ rfl; have r10 := hr9.cell 10 _ rfl; have r11 := hr9.cell 11 _ rfl
  refine bodyPost_ret (v := .tuple #[.agg #[.int .i64 x0, .int .i64 x1, .int .i64 x2, .int .i64 x3, .int .i64 x4, .int .i64 x5, .int .i64 x6, .bool x7, .int .i64 x8, .bool x9, .slice a10 n10 c10, .slice a11 n11 c11], .bool false]) (by simp [results, Tryd.results84, go_sem, r0, r1, r2, r3, r4, r5, r6, r7, r8, r9, r10, r11]) rfl ?_
  exact ⟨rfl, hb9⟩
set_option maxHeartbeats 4000000 in
theorem l11Opt_bad5c (x0 x1 x2 x3 x4 x5 x6 : Int) (x7 : Bool) (x8 : Int) (x9 : Bool) (a10 : Option Addr) (n10 c10 : Nat) (a11 : Option Addr) (n11 c11 : Nat) (a : Option Addr) (n cap : Nat) (zs : List Int) (w : World) (hn : zs.length = n) (ha : Arr w a zs) (hcap : n ≤ cap) (h2 : 2 ≤ n) (hm : n ≤ 255) (hk : zs.getD 0 0 = 5) (hb1 : 10 ≤ n) (hb2 : n ≤ 34) (hb3 : n % 8 ≠ 2) :
    Calls Tryd.prog 84 #[.agg #[.int .i64 x0, .int .i64 x1, .int .i64 x2, .int .i64 x3, .int .i64 x4, .int .i64 x5, .int .i64 x6, .bool x7, .int .i64 x8, .bool x9, .slice a10 n10 c10, .slice a11 n11 c11], .slice a n cap] w fun e w' => e = .returned (.tuple #[.agg #[.int .i64 x0, .int .i64 x1, .int .i64 x2, .int .i64 x3, .int .i64 x4, .int .i64 x5, .int .i64 x6, .bool x7, .int .i64 x8, .bool x9, .slice a10 n10 c10, .slice a11 n11 c11], .bool false]) ∧ Below w.heap.size w w' := by
  obtain ⟨hb0, hP, hQ⟩ := two_allocs w (.cells #[.int .i64 x0, .int .i64 x1, .int .i64 x2, .int .i64 x3, .int .i64 x4, .int .i64 x5, .int .i64 x6, .bool x7, .int .i64 x8, .bool x9, .slice a10 n10 c10, .slice a11 n11 c11] sgT) (.cells #[.int .i64 0, .int .i64 0, .int .i64 0, .int .i64 0, .int .i64 0, .int .i64 0, .int .i64 0, .bool false, .int .i64 0, .bool false, .slice none 0 0, .slice none 0 0] sgT)
  have HB : Hid (HoldV ((w.alloc (.cells #[.int .i64 x0, .int .i64 x1, .int .i64 x2, .int .i64 x3, .int .i64 x4, .int .i64 x5, .int .i64 x6, .bool x7, .int .i64 x8, .bool x9, .slice a10 n10 c10, .slice a11 n11 c11] sgT)).alloc (.cells #[.int .i64 0, .int .i64 0, .int .i64 0, .int .i64 0, .int .i64 0, .int .i64 0, .int .i64 0, .bool false, .int .i64 0, .bool false, .slice none 0 0, .slice none 0 0] sgT)) w.heap.size #[.int .i64 x0, .int .i64 x1, .int .i64 x2, .int .i64 x3, .int .i64 x4, .int .i64 x5, .int .i64 x6, .bool x7, .int .i64 x8, .bool x9, .slice a10 n10 c10, .slice a11 n11 c11] sgT) := hide hP
  have HR : Hid (HoldV ((w.alloc (.cells #[.int .i64 x0, .int .i64 x1, .int .i64 x2, .int .i64 x3, .int .i64 x4, .int .i64 x5, .int .i64 x6, .bool x7, .int .i64 x8, .bool x9, .slice a10 n10 c10, .slice a11 n11 c11] sgT)).alloc (.cells #[.int .i64 0, .int .i64 0, .int .i64 0, .int .i64 0, .int .i64 0, .int .i64 0, .int .i64 0, .bool false, .int .i64 0, .bool false, .slice none 0 0, .slice none 0 0] sgT)) (w.heap.size + 1) #[.int .i64 0, .int .i64 0, .int .i64 0, .int .i64 0, .int .i64 0, .int .i64 0, .int .i64 0, .bool false, .int .i64 0, .bool false, .slice none 0 0, .slice none 0 0] sgT) := hide hQ
  have HW := hide hb0
  have HA := hide (ha.below hb0 (Nat.le_refl _))
  have HN := hide hn
  obtain ⟨b, off, rfl, hbw, _⟩ := ha.2 0 (by omega)
  obtain ⟨_, _, ee, _, hc0⟩ := HA.out.2 0 (by omega)
  injection ee with ee; injection ee with ee1 ee2; subst ee1 ee2
  rw [Nat.add_zero] at hc0
  have k0 := HB.out.cell 0 _ rfl; have k1 := HB.out.cell 1 _ rfl; have k2 := HB.out.cell 2 _ rfl; have k3 := HB.out.cell 3 _ rfl; have k4 := HB.out.cell 4 _ rfl; have k5 := HB.out.cell 5 _ rfl; have k6 := HB.out.cell 6 _ rfl; have k7 := HB.out.cell 7 _ rfl; have k8 := HB.out.cell 8 _ rfl; have k9 := HB.out.cell 9 _ rfl; have k10 := HB.out.cell 10 _ rfl; have k11 := HB.out.cell 11 _ rfl
  have r0 := HR.out.cell 0 _ rfl; have r1 := HR.out.cell 1 _ rfl; have r2 := HR.out.cell 2 _ rfl; have r3 := HR.out.cell 3 _ rfl; have r4 := HR.out.cell 4 _ rfl; have r5 := HR.out.cell 5 _ rfl; have r6 := HR.out.cell 6 _ rfl; have r7 := HR.out.cell 7 _ rfl; have r8 := HR.out.cell 8 _ rfl; have r9 := HR.out.cell 9 _ rfl; have r10 := HR.out.cell 10 _ rfl; have r11 := HR.out.cell 11 _ rfl
  have kf := HB.out.frozen; have rf := HR.out.frozen
  clear hP hQ hb0 ha hn
  have h0 : 0 < n := by omega
  rw [hk] at hc0
  have hq : ¬ (n : Int) < 10 := by omega
  have hq2 : ¬ (34 : Int) < (n : Int) := by omega
  have hq3 : ((n : Int) % 8 != 2) = true := by simp; omega
  go_enter Tryd.func84, Tryd.ntmps84
  go_upto_region 1 with fail
  generalize ((w.alloc (.cells #[.int .i64 x0, .int .i64 x1, .int .i64 x2, .int .i64 x3, .int .i64 x4, .int .i64 x5, .int .i64 x6, .bool x7, .int .i64 x8, .bool x9, .slice a10 n10 c10, .slice a11 n11 c11] sgT)).alloc (.cells #[.int .i64 0, .int .i64 0, .int .i64 0, .int .i64 0, .int .i64 0, .int .i64 0, .int .i64 0, .bool false, .int .i64 0, .bool false, .slice none 0 0, .slice none 0 0] sgT)) = W at *
  go_wp2_with fail
  refine ret12 (P := fun X => bodyPost Tryd.prog Tryd.f84 _ _ _ X) HR.out ?_
  intro W9 hr9 hg9
  have hb9 := HW.out.grown hg9 HW.out.size (fun k hk => by cases hk; omega)
  clear hg9 k0 r0 k1 r1 k2 r2 k3 r3 k4 r4 k5 r5 k6 r6 k7 r7 k8 r8 k9 r9 k10 r10 k11 r11 kf rf
  have r0 := hr9.cell 0 _ rfl; have r1 := hr9.cell 1 _ rfl; have r2 := hr9.cell 2 _ rfl; have r3 := hr9.cell 3 _ rfl; have r4 := hr9.cell 4 _ rfl; have r5 := hr9.cell 5 _ rfl; have r6 := hr9.cell 6 _ rfl; have r7 := hr9.cell 7 _ rfl; have r8 := hr9.cell 8 _ rfl; have r9 := hr9.cell 9 _ rfl; have r10 := hr9.cell 10 _ rfl; have r11 := hr9.cell 11 _ rfl
  refine bodyPost_ret (v := .tuple #[.agg #[.int .i64 x0, .int .i64 x1, .int .i64 x2, .int .i64 x3, .int .i64 x4, .int .i64 x5, .int .i64 x6, .bool x7, .int .i64 x8, .bool x9, .slice a10 n10 c10, .slice a11 n11 c11], .bool false]) (by simp [results, Tryd.results84, go_sem, r0, r1, r2, r3, r4, r5, r6, r7, r8, r9, r10, r11]) rfl ?_
  exact ⟨rfl, hb9⟩
set_option maxHeartbeats 4000000 in
theorem l11Opt_other (x0 x1 x2 x3 x4 x5 x6 : Int) (x7 : Bool) (x8 : Int) (x9 : Bool) (a10 : Option Addr) (n10 c10 : Nat) (a11 : Option Addr) (n11 c11 : Nat) (a : Option Addr) (n cap : Nat) (zs : List Int) (w : World) (hn : zs.length = n) (ha : Arr w a zs) (hcap : n ≤ cap) (h2 : 2 ≤ n) (hm : n ≤ 255) (hk2 : zs.getD 0 0 ≠ 2) (hk3 : zs.getD 0 0 ≠ 3) (hk4 : zs.getD 0 0 ≠ 4) (hk5 : zs.getD 0 0 ≠ 5) :
    Calls Tryd.prog 84 #[.agg #[.int .i64 x0, .int .i64 x1, .int .i64 x2, .int .i64 x3, .int .i64 x4, .int .i64 x5, .int .i64 x6, .bool x7, .int .i64 x8, .bool x9, .slice a10 n10 c10, .slice a11 n11 c11], .slice a n cap] w fun e w' => e = .returned (.tuple #[.agg #[.int .i64 x0, .int .i64 x1, .int .i64 x2, .int .i64 x3, .int .i64 x4, .int .i64 x5, .int .i64 x6, .bool x7, .int .i64 x8, .bool x9, .slice a10 n10 c10, .slice a11 n11 c11], .bool true]) ∧ Below w.heap.size w w' := by
  obtain ⟨hb0, hP, hQ⟩ := two_allocs w (.cells #[.int .i64 x0, .int .i64 x1, .int .i64 x2, .int .i64 x3, .int .i64 x4, .int .i64 x5, .int .i64 x6, .bool x7, .int .i64 x8, .bool x9, .slice a10 n10 c10, .slice a11 n11 c11] sgT) (.cells #[.int .i64 0, .int .i64 0, .int .i64 0, .int .i64 0, .int .i64 0, .int .i64 0, .int .i64 0, .bool false, .int .i64 0, .bool false, .slice none 0 0, .slice none 0 0] sgT)
  have HB : Hid (HoldV ((w.alloc (.cells #[.int .i64 x0, .int .i64 x1, .int .i64 x2, .int .i64 x3, .int .i64 x4, .int .i64 x5, .int .i64 x6, .bool x7, .int .i64 x8, .bool x9, .slice a10 n10 c10, .slice a11 n11 c11] sgT)).alloc (.cells #[.int .i64 0, .int .i64 0, .int .i64 0, .int .i64 0, .int .i64 0, .int .i64 0, .int .i64 0, .bool false, .int .i64 0, .bool false, .slice none 0 0, .slice none 0 0] sgT)) w.heap.size #[.int .i64 x0, .int .i64 x1, .int .i64 x2, .int .i64 x3, .int .i64 x4, .int .i64 x5, .int .i64 x6, .bool x7, .int .i64 x8, .bool x9, .slice a10 n10 c10, .slice a11 n11 c11] sgT) := hide hP
  have HR : Hid (HoldV ((w.alloc (.cells #[.int .i64 x0, .int .i64 x1, .int .i64 x2, .int .i64 x3, .int .i64 x4, .int .i64 x5, .int .i64 x6, .bool x7, .int .i64 x8, .bool x9, .slice a10 n10 c10, .slice a11 n11 c11] sgT)).alloc (.cells #[.int .i64 0, .int .i64 0, .int .i64 0, .int .i64 0, .int .i64 0, .int .i64 0, .int .i64 0, .bool false, .int .i64 0, .bool false, .slice none 0 0, .slice none 0 0] sgT)) (w.heap.size + 1) #[.int .i64 0, .int .i64 0, .int .i64 0, .int .i64 0, .int .i64 0, .int .i64 0, .int .i64 0, .bool false, .int .i64 0, .bool false, .slice none 0 0, .slice none 0 0] sgT) := hide hQ
  have HW := hide hb0
  have HA := hide (ha.below hb0 (Nat.le_refl _))
  have HN := hide hn
  obtain ⟨b, off, rfl, hbw, _⟩ := ha.2 0 (by omega)
  obtain ⟨_, _, ee, _, hc0⟩ := HA.out.2 0 (by omega)
  injection ee with ee; injection ee with ee1 ee2; subst ee1 ee2
  rw [Nat.add_zero] at hc0
  have k0 := HB.out.cell 0 _ rfl; have k1 := HB.out.cell 1 _ rfl; have k2 := HB.out.cell 2 _ rfl; have k3 := HB.out.cell 3 _ rfl; have k4 := HB.out.cell 4 _ rfl; have k5 := HB.out.cell 5 _ rfl; have k6 := HB.out.cell 6 _ rfl; have k7 := HB.out.cell 7 _ rfl; have k8 := HB.out.cell 8 _ rfl; have k9 := HB.out.cell 9 _ rfl; have k10 := HB.out.cell 10 _ rfl; have k11 := HB.out.cell 11 _ rfl
  have r0 := HR.out.cell 0 _ rfl; have r1 := HR.out.cell 1 _ rfl; have r2 := HR.out.cell 2 _ rfl; have r3 := HR.out.cell 3 _ rfl; have r4 := HR.out.cell 4 _ rfl; have r5 := HR.out.cell 5 _ rfl; have r6 := HR.out.cell 6 _ rfl; have r7 := HR.out.cell 7 _ rfl; have r8 := HR.out.cell 8 _ rfl; have r9 := HR.out.cell 9 _ rfl; have r10 := HR.out.cell 10 _ rfl; have r11 := HR.out.cell 11 _ rfl
  have kf := HB.out.frozen; have rf := HR.out.frozen
  clear hP hQ hb0 ha hn
  have h0 : 0 < n := by omega
  generalize zs.getD 0 0 = kk at *
  have q2 : (kk == 2) = false := beq_eq_false_iff_ne.2 hk2
  have q3 : (kk == 3) = false := beq_eq_false_iff_ne.2 hk3
  have q4 : (kk == 4) = false := beq_eq_false_iff_ne.2 hk4
  have q5 : (kk == 5) = false := beq_eq_false_iff_ne.2 hk5
  clear hk2 hk3 hk4 hk5
  go_enter Tryd.func84, Tryd.ntmps84
  go_upto_region 1 with fail
  generalize ((w.alloc (.cells #[.int .i64 x0, .int .i64 x1, .int .i64 x2, .int .i64 x3, .int .i64 x4, .int .i64 x5, .int .i64 x6, .bool x7, .int .i64 x8, .bool x9, .slice a10 n10 c10, .slice a11 n11 c11] sgT)).alloc (.cells #[.int .i64 0, .int .i64 0, .int .i64 0, .int .i64 0, .int .i64 0, .int .i64 0, .int .i64 0, .bool false, .int .i64 0, .bool false, .slice none 0 0, .slice none 0 0] sgT)) = W at *
  go_wp2_with fail
  refine ret12 (P := fun X => bodyPost Tryd.prog Tryd.f84 _ _ _ X) HR.out ?_
  intro W9 hr9 hg9
  have hb9 := HW.out.grown hg9 HW.out.size (fun k hk => by cases hk; omega)
  clear hg9 k0 r0 k1 r1 k2 r2 k3 r3 k4 r4 k5 r5 k6 r6 k7 r7 k8 r8 k9 r9 k10 r10 k11 r11 kf rf
  have r0 := hr9.cell 0 _ rfl; have r1 := hr9.cell 1 _ rfl; have r2 := hr9.cell 2 _ rfl; have r3 := hr9.cell 3 _ rfl; have r4 := hr9.cell 4 _ rfl; have r5 := hr9.cell 5 _ rfl; have r6 := hr9.cell 6 _ rfl; have r7 := hr9.cell 7 _ rfl; have r8 := hr9.cell 8 _ rfl; have r9 := hr9.cell 9 _ rfl; have r10 := hr9.cell 10 _ rfl; have r11 := hr9.cell 11 _ rfl
  refine bodyPost_ret (v := .tuple #[.agg #[.int .i64 x0, .int .i64 x1, .int .i64 x2, .int .i64 x3, .int .i64 x4, .int .i64 x5, .int .i64 x6, .bool x7, .int .i64 x8, .bool x9, .slice a10 n10 c10, .slice a11 n11 c11], .bool true]) (by simp [results, Tryd.results84, go_sem, r0, r1, r2, r3, r4, r5, r6, r7, r8, r9, r10, r11]) rfl ?_
  exact ⟨rfl, hb9⟩
set_option maxHeartbeats 4000000 in
theorem l11Opt_ok4 (x0 x1 x2 x3 x4 x5 x6 : Int) (x7 : Bool) (x8 : Int) (x9 : Bool) (a10 : Option Addr) (n10 c10 : Nat) (a11 : Option Addr) (n11 c11 : Nat) (a : Option Addr) (n cap : Nat) (zs : List Int) (w : World) (hn : zs.length = n) (ha : Arr w a zs) (hcap : n ≤ cap) (h2 : 2 ≤ n) (hm : n ≤ 255) (hk : zs.getD 0 0 = 4) (hb : n = 2) :
    Calls Tryd.prog 84 #[.agg #[.int .i64 x0, .int .i64 x1, .int .i64 x2, .int .i64 x3, .int .i64 x4, .int .i64 x5, .int .i64 x6, .bool x7, .int .i64 x8, .bool x9, .slice a10 n10 c10, .slice a11 n11 c11], .slice a n cap] w fun e w' => e = .returned (.tuple #[.agg #[.int .i64 x0, .int .i64 x1, .int .i64 x2, .int .i64 x3, .int .i64 x4, .int .i64 x5, .int .i64 x6, .bool x7, .int .i64 x8, .bool true, .slice a10 n10 c10, .slice a11 n11 c11], .bool true]) ∧ Below w.heap.size w w' := by
  obtain ⟨hb0, hP, hQ⟩ := two_allocs w (.cells #[.int .i64 x0, .int .i64 x1, .int .i64 x2, .int .i64 x3, .int .i64 x4, .int .i64 x5, .int .i64 x6, .bool x7, .int .i64 x8, .bool x9, .slice a10 n10 c10, .slice a11 n11 c11] sgT) (.cells #[.int .i64 0, .int .i64 0, .int .i64 0, .int .i64 0, .int .i64 0, .int .i64 0, .int .i64 0, .bool false, .int .i64 0, .bool false, .slice none 0 0, .slice none 0 0] sgT)
  have HB : Hid (HoldV ((w.alloc (.cells #[.int .i64 x0, .int .i64 x1, .int .i64 x2, .int .i64 x3, .int .i64 x4, .int .i64 x5, .int .i64 x6, .bool x7, .int .i64 x8, .bool x9, .slice a10 n10 c10, .slice a11 n11 c11] sgT)).alloc (.cells #[.int .i64 0, .int .i64 0, .int .i64 0, .int .i64 0, .int .i64 0, .int .i64 0, .int .i64 0, .bool false, .int .i64 0, .bool false, .slice none 0 0, .slice none 0 0] sgT)) w.heap.size #[.int .i64 x0, .int .i64 x1, .int .i64 x2, .int .i64 x3, .int .i64 x4, .int .i64 x5, .int .i64 x6, .bool x7, .int .i64 x8, .bool x9, .slice a10 n10 c10, .slice a11 n11 c11] sgT) := hide hP
  have HR : Hid (HoldV ((w.alloc (.cells #[.int .i64 x0, .int .i64 x1, .int .i64 x2, .int .i64 x3, .int .i64 x4, .int .i64 x5, .int .i64 x6, .bool x7, .int .i64 x8, .bool x9, .slice a10 n10 c10, .slice a11 n11 c11] sgT)).alloc (.cells #[.int .i64 0, .int .i64 0, .int .i64 0, .int .i64 0, .int .i64 0, .int .i64 0, .int .i64 0, .bool false, .int .i64 0, .bool false, .slice none 0 0, .slice none 0 0] sgT)) (w.heap.size + 1) #[.int .i64 0, .int .i64 0, .int .i64 0, .int .i64 0, .int .i64 0, .int .i64 0, .int .i64 0, .bool false, .int .i64 0, .bool false, .slice none 0 0, .slice none 0 0] sgT) := hide hQ
  have HW := hide hb0
  have HA := hide (ha.below hb0 (Nat.le_refl _))
  have HN := hide hn
  obtain ⟨b, off, rfl, hbw, _⟩ := ha.2 0 (by omega)
  obtain ⟨_, _, ee, _, hc0⟩ := HA.out.2 0 (by omega)
  injection ee with ee; injection ee with ee1 ee2; subst ee1 ee2
  rw [Nat.add_zero] at hc0
  have k0 := HB.out.cell 0 _ rfl; have k1 := HB.out.cell 1 _ rfl; have k2 := HB.out.cell 2 _ rfl; have k3 := HB.out.cell 3 _ rfl; have k4 := HB.out.cell 4 _ rfl; have k5 := HB.out.cell 5 _ rfl; have k6 := HB.out.cell 6 _ rfl; have k7 := HB.out.cell 7 _ rfl; have k8 := HB.out.cell 8 _ rfl; have k9 := HB.out.cell 9 _ rfl; have k10 := HB.out.cell 10 _ rfl; have k11 := HB.out.cell 11 _ rfl
  have r0 := HR.out.cell 0 _ rfl; have r1 := HR.out.cell 1 _ rfl; have r2 := HR.out.cell 2 _ rfl; have r3 := HR.out.cell 3 _ rfl; have r4 := HR.out.cell 4 _ rfl; have r5 := HR.out.cell 5 _ rfl; have r6 := HR.out.cell 6 _ rfl; have r7 := HR.out.cell 7 _ rfl; have r8 := HR.out.cell 8 _ rfl; have r9 := HR.out.cell 9 _ rfl; have r10 := HR.out.cell 10 _ rfl; have r11 := HR.out.cell 11 _ rfl
  have kf := HB.out.frozen; have rf := HR.out.frozen
  clear hP hQ hb0 ha hn
  have h0 : 0 < n := by omega
  rw [hk] at hc0
  subst hb
  go_enter Tryd.func84, Tryd.ntmps84
  go_upto_region 1 with fail
  generalize ((w.alloc (.cells #[.int .i64 x0, .int .i64 x1, .int .i64 x2, .int .i64 x3, .int .i64 x4, .int .i64 x5, .int .i64 x6, .bool x7, .int .i64 x8, .bool x9, .slice a10 n10 c10, .slice a11 n11 c11] sgT)).alloc (.cells #[.int .i64 0, .int .i64 0, .int .i64 0, .int .i64 0, .int .i64 0, .int .i64 0, .int .i64 0, .bool false, .int .i64 0, .bool false, .slice none 0 0, .slice none 0 0] sgT)) = W at *
  go_wp2_with fail
  refine ret12 (P := fun X => bodyPost Tryd.prog Tryd.f84 _ _ _ X) (HR.out.fars w.heap.size 9 (.bool true) (by omega)) ?_
  intro W9 hr9 hg9
  have hb9 := (HW.out.setCell (p := ⟨w.heap.size, 9, none⟩) (Nat.le_refl _) (.bool true)).grown hg9 (HW.out.setCell (p := ⟨w.heap.size, 9, none⟩) (Nat.le_refl _) (.bool true)).size (fun k hk => by cases hk; omega)
  clear hg9 k0 r0 k1 r1 k2 r2 k3 r3 k4 r4 k5 r5 k6 r6 k7 r7 k8 r8 k9 r9 k10 r10 k11 r11 kf rf
  have r0 := hr9.cell 0 _ rfl; have r1 := hr9.cell 1 _ rfl; have r2 := hr9.cell 2 _ rfl; have r3 := hr9.cell 3 _ rfl; have r4 := hr9.cell 4 _ rfl; have r5 := hr9.cell 5 _ rfl; have r6 := hr9.cell 6 _ rfl; have r7 := hr9.cell 7 _ rfl; have r8 := hr9.cell 8 _ rfl; have r9 := hr9.cell 9 _ rfl; have r10 := hr9.cell 10 _ rfl; have r11 := hr9.cell 11 _ rfl
  refine bodyPost_ret (v := .tuple #[.agg #[.int .i64 x0, .int .i64 x1, .int .i64 x2, .int .i64 x3, .int .i64 x4, .int .i64 x5, .int .i64 x6, .bool x7, .int .i64 x8, .bool true, .slice a10 n10 c10, .slice a11 n11 c11], .bool true]) (by simp [results, Tryd.results84, go_sem, r0, r1, r2, r3, r4, r5, r6, r7, r8, r9, r10, r11]) rfl ?_
  exact ⟨rfl, hb9⟩
set_option maxHeartbeats 4000000 in
theorem l11Opt_ok2 (x0 x1 x2 x3 x4 x5 x6 : Int) (x7 : Bool) (x8 : Int) (x9 : Bool) (a10 : Option Addr) (n10 c10 : Nat) (a11 : Option Addr) (n11 c11 : Nat) (a : Option Addr) (n cap : Nat) (zs : List Int) (w : World) (hn : zs.length = n) (ha : Arr w a zs) (hcap : n ≤ cap) (h2 : 2 ≤ n) (hm : n ≤ 255) (hk : zs.getD 0 0 = 2) (hb : n = 4) (y : Int) (hy : tnum (zs.drop 2) = y) :
    Calls Tryd.prog 84 #[.agg #[.int .i64 x0, .int .i64 x1, .int .i64 x2, .int .i64 x3, .int .i64 x4, .int .i64 x5, .int .i64 x6, .bool x7, .int .i64 x8, .bool x9, .slice a10 n10 c10, .slice a11 n11 c11], .slice a n cap] w fun e w' => e = .returned (.tuple #[.agg #[.int .i64 x0, .int .i64 x1, .int .i64 x2, .int .i64 x3, .int .i64 x4, .int .i64 x5, .int .i64 y, .bool x7, .int .i64 x8, .bool x9, .slice a10 n10 c10, .slice a11 n11 c11], .bool true]) ∧ Below w.heap.size w w' := by
  obtain ⟨hb0, hP, hQ⟩ := two_allocs w (.cells #[.int .i64 x0, .int .i64 x1, .int .i64 x2, .int .i64 x3, .int .i64 x4, .int .i64 x5, .int .i64 x6, .bool x7, .int .i64 x8, .bool x9, .slice a10 n10 c10, .slice a11 n11 c11] sgT) (.cells #[.int .i64 0, .int .i64 0, .int .i64 0, .int .i64 0, .int .i64 0, .int .i64 0, .int .i64 0, .bool false, .int .i64 0, .bool false, .slice none 0 0, .slice none 0 0] sgT)
  have HB : Hid (HoldV ((w.alloc (.cells #[.int .i64 x0, .int .i64 x1, .int .i64 x2, .int .i64 x3, .int .i64 x4, .int .i64 x5, .int .i64 x6, .bool x7, .int .i64 x8, .bool x9, .slice a10 n10 c10, .slice a11 n11 c11] sgT)).alloc (.cells #[.int .i64 0, .int .i64 0, .int .i64 0, .int .i64 0, .int .i64 0, .int .i64 0, .int .i64 0, .bool false, .int .i64 0, .bool false, .slice none 0 0, .slice none 0 0] sgT)) w.heap.size #[.int .i64 x0, .int .i64 x1, .int .i64 x2, .int .i64 x3, .int .i64 x4, .int .i64 x5, .int .i64 x6, .bool x7, .int .i64 x8, .bool x9, .slice a10 n10 c10, .slice a11 n11 c11] sgT) := hide hP
  have HR : Hid (HoldV ((w.alloc (.cells #[.int .i64 x0, .int .i64 x1, .int .i64 x2, .int .i64 x3, .int .i64 x4, .int .i64 x5, .int .i64 x6, .bool x7, .int .i64 x8, .bool x9, .slice a10 n10 c10, .slice a11 n11 c11] sgT)).alloc (.cells #[.int .i64 0, .int .i64 0, .int .i64 0, .int .i64 0, .int .i64 0, .int .i64 0, .int .i64 0, .bool false, .int .i64 0, .bool false, .slice none 0 0, .slice none 0 0] sgT)) (w.heap.size + 1) #[.int .i64 0, .int .i64 0, .int .i64 0, .int .i64 0, .int .i64 0, .int .i64 0, .int .i64 0, .bool false, .int .i64 0, .bool false, .slice none 0 0, .slice none 0 0] sgT) := hide hQ
  have HW := hide hb0
  have HA := hide (ha.below hb0 (Nat.le_refl _))
  have HN := hide hn
  obtain ⟨b, off, rfl, hbw, _⟩ := ha.2 0 (by omega)
  obtain ⟨_, _, ee, _, hc0⟩ := HA.out.2 0 (by omega)
  injection ee with ee; injection ee with ee1 ee2; subst ee1 ee2
  rw [Nat.add_zero] at hc0
  have k0 := HB.out.cell 0 _ rfl; have k1 := HB.out.cell 1 _ rfl; have k2 := HB.out.cell 2 _ rfl; have k3 := HB.out.cell 3 _ rfl; have k4 := HB.out.cell 4 _ rfl; have k5 := HB.out.cell 5 _ rfl; have k6 := HB.out.cell 6 _ rfl; have k7 := HB.out.cell 7 _ rfl; have k8 := HB.out.cell 8 _ rfl; have k9 := HB.out.cell 9 _ rfl; have k10 := HB.out.cell 10 _ rfl; have k11 := HB.out.cell 11 _ rfl
  have r0 := HR.out.cell 0 _ rfl; have r1 := HR.out.cell 1 _ rfl; have r2 := HR.out.cell 2 _ rfl; have r3 := HR.out.cell 3 _ rfl; have r4 := HR.out.cell 4 _ rfl; have r5 := HR.out.cell 5 _ rfl; have r6 := HR.out.cell 6 _ rfl; have r7 := HR.out.cell 7 _ rfl; have r8 := HR.out.cell 8 _ rfl; have r9 := HR.out.cell 9 _ rfl; have r10 := HR.out.cell 10 _ rfl; have r11 := HR.out.cell 11 _ rfl
  have kf := HB.out.frozen; have rf := HR.out.frozen
  clear hP hQ hb0 ha hn
  have h0 : 0 < n := by omega
  rw [hk] at hc0
  subst hb
  have s2 : ∀ w : World, (Instr.slice 23 (.slice (some ⟨b, off, none⟩) 4 cap) (some (.int .i64 2)) none none).run Tryd.prog w = .ok (.slice (some ⟨b, off + 2, none⟩) 2 (cap - 2)) w := sl_from b off 4 cap 2 (by omega) (by omega)
  have CN := hide (l03Num_walk (some ⟨b, off + 2, none⟩) 2 (cap - 2) (zs.drop 2) _ (by rw [List.length_drop, HN.out]) (HA.out.drop 2) (by omega))
  rw [hy] at CN
  clear hy
  generalize off + 2 = o2 at *
  generalize cap - 2 = c2 at *
  go_enter Tryd.func84, Tryd.ntmps84
  go_upto_region 1 with fail
  generalize ((w.alloc (.cells #[.int .i64 x0, .int .i64 x1, .int .i64 x2, .int .i64 x3, .int .i64 x4, .int .i64 x5, .int .i64 x6, .bool x7, .int .i64 x8, .bool x9, .slice a10 n10 c10, .slice a11 n11 c11] sgT)).alloc (.cells #[.int .i64 0, .int .i64 0, .int .i64 0, .int .i64 0, .int .i64 0, .int .i64 0, .int .i64 0, .bool false, .int .i64 0, .bool false, .slice none 0 0, .slice none 0 0] sgT)) = W at *
  go_wp2_with fail
  refine CN.out.mono ?_
  rintro e w1 ⟨rfl, hw1⟩
  rw [hw1]
  clear hw1
  go_wp2_with fail
  refine ret12 (P := fun X => bodyPost Tryd.prog Tryd.f84 _ _ _ X) (HR.out.fars w.heap.size 6 (.int .i64 y) (by omega)) ?_
  intro W9 hr9 hg9
  have hb9 := (HW.out.setCell (p := ⟨w.heap.size, 6, none⟩) (Nat.le_refl _) (.int .i64 y)).grown hg9 (HW.out.setCell (p := ⟨w.heap.size, 6, none⟩) (Nat.le_refl _) (.int .i64 y)).size (fun k hk => by cases hk; omega)
  clear hg9 k0 r0 k1 r1 k2 r2 k3 r3 k4 r4 k5 r5 k6 r6 k7 r7 k8 r8 k9 r9 k10 r10 k11 r11 kf rf
  have r0 := hr9.cell 0 _ rfl; have r1 := hr9.cell 1 _ rfl; have r2 := hr9.cell 2 _ rfl; have r3 := hr9.cell 3 _ rfl; have r4 := hr9.cell 4 _ rfl; have r5 := hr9.cell 5 _ rfl; have r6 := hr9.cell 6 _ rfl; have r7 := hr9.cell 7 _ rfl; have r8 := hr9.cell 8 _ rfl; have r9 := hr9.cell 9 _ rfl; have r10 := hr9.cell 10 _ rfl; have r11 := hr9.cell 11 _ rfl
  refine bodyPost_ret (v := .tuple #[.agg #[.int .i64 x0, .int .i64 x1, .int .i64 x2, .int .i64 x3, .int .i64 x4, .int .i64 x5, .int .i64 y, .bool x7, .int .i64 x8, .bool x9, .slice a10 n10 c10, .slice a11 n11 c11], .bool true]) (by simp [results, Tryd.results84, go_sem, r0, r1, r2, r3, r4, r5, r6, r7, r8, r9, r10, r11]) rfl ?_
  exact ⟨rfl, hb9⟩
set_option maxHeartbeats 4000000 in
theorem l11Opt_ok3a (x0 x1 x2 x3 x4 x5 x6 : Int) (x7 : Bool) (x8 : Int) (x9 : Bool) (a10 : Option Addr) (n10 c10 : Nat) (a11 : Option Addr) (n11 c11 : Nat) (a : Option Addr) (n cap : Nat) (zs : List Int) (w : World) (hn : zs.length = n) (ha : Arr w a zs) (hcap : n ≤ cap) (h2 : 2 ≤ n) (hm : n ≤ 255) (hk : zs.getD 0 0 = 3) (hb : n = 3) (y : Int) (hy : zs.getD 2 0 = y) (hc : 14 < y) :
    Calls Tryd.prog 84 #[.agg #[.int .i64 x0, .int .i64 x1, .int .i64 x2, .int .i64 x3, .int .i64 x4, .int .i64 x5, .int .i64 x6, .bool x7, .int .i64 x8, .bool x9, .slice a10 n10 c10, .slice a11 n11 c11], .slice a n cap] w fun e w' => e = .returned (.tuple #[.agg #[.int .i64 x0, .int .i64 x1, .int .i64 x2, .int .i64 x3, .int .i64 x4, .int .i64 x5, .int .i64 x6, .bool true, .int .i64 (14), .bool x9, .slice a10 n10 c10, .slice a11 n11 c11], .bool true]) ∧ Below w.heap.size w w' := by
  obtain ⟨hb0, hP, hQ⟩ := two_allocs w (.cells #[.int .i64 x0, .int .i64 x1, .int .i64 x2, .int .i64 x3, .int .i64 x4, .int .i64 x5, .int .i64 x6, .bool x7, .int .i64 x8, .bool x9, .slice a10 n10 c10, .slice a11 n11 c11] sgT) (.cells #[.int .i64 0, .int .i64 0, .int .i64 0, .int .i64 0, .int .i64 0, .int .i64 0, .int .i64 0, .bool false, .int .i64 0, .bool false, .slice none 0 0, .slice none 0 0] sgT)
  have HB : Hid (HoldV ((w.alloc (.cells #[.int .i64 x0, .int .i64 x1, .int .i64 x2, .int .i64 x3, .int .i64 x4, .int .i64 x5, .int .i64 x6, .bool x7, .int .i64 x8, .bool x9, .slice a10 n10 c10, .slice a11 n11 c11] sgT)).alloc (.cells #[.int .i64 0, .int .i64 0, .int .i64 0, .int .i64 0, .int .i64 0, .int .i64 0, .int .i64 0, .bool false, .int .i64 0, .bool false, .slice none 0 0, .slice none 0 0] sgT)) w.heap.size #[.int .i64 x0, .int .i64 x1, .int .i64 x2, .int .i64 x3, .int .i64 x4, .int .i64 x5, .int .i64 x6, .bool x7, .int .i64 x8, .bool x9, .slice a10 n10 c10, .slice a11 n11 c11] sgT) := hide hP
  have HR : Hid (HoldV ((w.alloc (.cells #[.int .i64 x0, .int .i64 x1, .int .i64 x2, .int .i64 x3, .int .i64 x4, .int .i64 x5, .int .i64 x6, .bool x7, .int .i64 x8, .bool x9, .slice a10 n10 c10, .slice a11 n11 c11] sgT)).alloc (.cells #[.int .i64 0, .int .i64 0, .int .i64 0, .int .i64 0, .int .i64 0, .int .i64 0, .int .i64 0, .bool false, .int .i64 0, .bool false, .slice none 0 0, .slice none 0 0] sgT)) (w.heap.size + 1) #[.int .i64 0, .int .i64 0, .int .i64 0, .int .i64 0, .int .i64 0, .int .i64 0, .int .i64 0, .bool false, .int .i64 0, .bool false, .slice none 0 0, .slice none 0 0] sgT) := hide hQ
  have HW := hide hb0
  have HA := hide (ha.below hb0 (Nat.le_refl _))
  have HN := hide hn
  obtain ⟨b, off, rfl, hbw, _⟩ := ha.2 0 (by omega)
  obtain ⟨_, _, ee, _, hc0⟩ := HA.out.2 0 (by omega)
  injection ee with ee; injection ee with ee1 ee2; subst ee1 ee2
  rw [Nat.add_zero] at hc0
  have k0 := HB.out.cell 0 _ rfl; have k1 := HB.out.cell 1 _ rfl; have k2 := HB.out.cell 2 _ rfl; have k3 := HB.out.cell 3 _ rfl; have k4 := HB.out.cell 4 _ rfl; have k5 := HB.out.cell 5 _ rfl; have k6 := HB.out.cell 6 _ rfl; have k7 := HB.out.cell 7 _ rfl; have k8 := HB.out.cell 8 _ rfl; have k9 := HB.out.cell 9 _ rfl; have k10 := HB.out.cell 10 _ rfl; have k11 := HB.out.cell 11 _ rfl
  have r0 := HR.out.cell 0 _ rfl; have r1 := HR.out.cell 1 _ rfl; have r2 := HR.out.cell 2 _ rfl; have r3 := HR.out.cell 3 _ rfl; have r4 := HR.out.cell 4 _ rfl; have r5 := HR.out.cell 5 _ rfl; have r6 := HR.out.cell 6 _ rfl; have r7 := HR.out.cell 7 _ rfl; have r8 := HR.out.cell 8 _ rfl; have r9 := HR.out.cell 9 _ rfl; have r10 := HR.out.cell 10 _ rfl; have r11 := HR.out.cell 11 _ rfl
  have kf := HB.out.frozen; have rf := HR.out.frozen
  clear hP hQ hb0 ha hn
  have h0 : 0 < n := by omega
  rw [hk] at hc0
  subst hb
  obtain ⟨b2, off2, e2, _, hc2⟩ := HA.out.2 2 (by have := HN.out; omega)
  injection e2 with e2; injection e2 with e3 e4; subst e3 e4
  have hz := getD_bd HA.out.1 2
  rw [hy] at hc2 hz
  clear hy
  have hne : b ≠ w.heap.size := by omega
  have hc2q : ∀ W : World, W.cell? ⟨b, off + 2, none⟩ = some (.int .u8 y) → (W.setCell ⟨w.heap.size, 7, none⟩ (.bool true)).cell? ⟨b, off + 2, none⟩ = some (.int .u8 y) := fun W h => by rw [cell_far W _ _ _ hne]; exact h
  have hc2r := hc2q _ hc2
  clear hc2q
  go_enter Tryd.func84, Tryd.ntmps84
  go_upto_region 1 with fail
  generalize ((w.alloc (.cells #[.int .i64 x0, .int .i64 x1, .int .i64 x2, .int .i64 x3, .int .i64 x4, .int .i64 x5, .int .i64 x6, .bool x7, .int .i64 x8, .bool x9, .slice a10 n10 c10, .slice a11 n11 c11] sgT)).alloc (.cells #[.int .i64 0, .int .i64 0, .int .i64 0, .int .i64 0, .int .i64 0, .int .i64 0, .int .i64 0, .bool false, .int .i64 0, .bool false, .slice none 0 0, .slice none 0 0] sgT)) = W at *
  go_upto_region 11 with fail
  have HB2 : Hid (HoldV ((W.setCell ⟨w.heap.size, 7, none⟩ (.bool true)).setCell ⟨w.heap.size, 8, none⟩ (.int .i64 y)) w.heap.size #[.int .i64 x0, .int .i64 x1, .int .i64 x2, .int .i64 x3, .int .i64 x4, .int .i64 x5, .int .i64 x6, .bool true, .int .i64 y, .bool x9, .slice a10 n10 c10, .slice a11 n11 c11] sgT) := hide (by have h := (HB.out.set1s 7 (.bool true)).set1s 8 (.int .i64 y); simpa using h)
  have HR2 : Hid (HoldV ((W.setCell ⟨w.heap.size, 7, none⟩ (.bool true)).setCell ⟨w.heap.size, 8, none⟩ (.int .i64 y)) (w.heap.size + 1) #[.int .i64 0, .int .i64 0, .int .i64 0, .int .i64 0, .int .i64 0, .int .i64 0, .int .i64 0, .bool false, .int .i64 0, .bool false, .slice none 0 0, .slice none 0 0] sgT) := hide ((HR.out.fars w.heap.size 7 (.bool true) (by omega)).fars w.heap.size 8 (.int .i64 y) (by omega))
  have HW2 : Hid (Below w.heap.size w ((W.setCell ⟨w.heap.size, 7, none⟩ (.bool true)).setCell ⟨w.heap.size, 8, none⟩ (.int .i64 y))) := hide ((HW.out.setCell (p := ⟨w.heap.size, 7, none⟩) (Nat.le_refl _) (.bool true)).setCell (p := ⟨w.heap.size, 8, none⟩) (Nat.le_refl _) (.int .i64 y))
  clear k0 r0 k1 r1 k2 r2 k3 r3 k4 r4 k5 r5 k6 r6 k7 r7 k8 r8 k9 r9 k10 r10 k11 r11 kf rf HB HR HW hc2 hc2r hc0
  generalize ((W.setCell ⟨w.heap.size, 7, none⟩ (.bool true)).setCell ⟨w.heap.size, 8, none⟩ (.int .i64 y)) = W2 at *
  have k0 := HB2.out.cell 0 _ rfl; have k1 := HB2.out.cell 1 _ rfl; have k2 := HB2.out.cell 2 _ rfl; have k3 := HB2.out.cell 3 _ rfl; have k4 := HB2.out.cell 4 _ rfl; have k5 := HB2.out.cell 5 _ rfl; have k6 := HB2.out.cell 6 _ rfl; have k7 := HB2.out.cell 7 _ rfl; have k8 := HB2.out.cell 8 _ rfl; have k9 := HB2.out.cell 9 _ rfl; have k10 := HB2.out.cell 10 _ rfl; have k11 := HB2.out.cell 11 _ rfl
  have r0 := HR2.out.cell 0 _ rfl; have r1 := HR2.out.cell 1 _ rfl; have r2 := HR2.out.cell 2 _ rfl; have r3 := HR2.out.cell 3 _ rfl; have r4 := HR2.out.cell 4 _ rfl; have r5 := HR2.out.cell 5 _ rfl; have r6 := HR2.out.cell 6 _ rfl; have r7 := HR2.out.cell 7 _ rfl; have r8 := HR2.out.cell 8 _ rfl; have r9 := HR2.out.cell 9 _ rfl; have r10 := HR2.out.cell 10 _ rfl; have r11 := HR2.out.cell 11 _ rfl
  have kf := HB2.out.frozen; have rf := HR2.out.frozen
  go_wp2_with fail
  refine ret12 (P := fun X => bodyPost Tryd.prog Tryd.f84 _ _ _ X) (HR2.out.fars w.heap.size 8 (.int .i64 14) (by omega)) ?_
  intro W9 hr9 hg9
  have hb9 := (HW2.out.setCell (p := ⟨w.heap.size, 8, none⟩) (Nat.le_refl _) (.int .i64 14)).grown hg9 (HW2.out.setCell (p := ⟨w.heap.size, 8, none⟩) (Nat.le_refl _) (.int .i64 14)).size (fun k hk => by cases hk; omega)
  clear hg9 k0 r0 k1 r1 k2 r2 k3 r3 k4 r4 k5 r5 k6 r6 k7 r7 k8 r8 k9 r9 k10 r10 k11 r11 kf rf
  have r0 := hr9.cell 0 _ rfl; have r1 := hr9.cell 1 _ rfl; have r2 := hr9.cell 2 _ rfl; have r3 := hr9.cell 3 _ rfl; have r4 := hr9.cell 4 _ rfl; have r5 := hr9.cell 5 _ rfl; have r6 := hr9.cell 6 _ rfl; have r7 := hr9.cell 7 _ rfl; have r8 := hr9.cell 8 _ rfl; have r9 := hr9.cell 9 _ rfl; have r10 := hr9.cell 10 _ rfl; have r11 := hr9.cell 11 _ rfl
  refine bodyPost_ret (v := .tuple #[.agg #[.int .i64 x0, .int .i64 x1, .int .i64 x2, .int .i64 x3, .int .i64 x4, .int .i64 x5, .int .i64 x6, .bool true, .int .i64 (14), .bool x9, .slice a10 n10 c10, .slice a11 n11 c11], .bool true]) (by simp [results, Tryd.results84, go_sem, r0, r1, r2, r3, r4, r5, r6, r7, r8, r9, r10, r11]) rfl ?_
  exact ⟨rfl, hb9⟩
set_option maxHeartbeats 4000000 in
theorem l11Opt_ok3b (x0 x1 x2 x3 x4 x5 x6 : Int) (x7 : Bool) (x8 : Int) (x9 : Bool) (a10 : Option Addr) (n10 c10 : Nat) (a11 : Option Addr) (n11 c11 : Nat) (a : Option Addr) (n cap : Nat) (zs : List Int) (w : World) (hn : zs.length = n) (ha : Arr w a zs) (hcap : n ≤ cap) (h2 : 2 ≤ n) (hm : n ≤ 255) (hk : zs.getD 0 0 = 3) (hb : n = 3) (y : Int) (hy : zs.getD 2 0 = y) (hc : ¬ 14 < y) :
    Calls Tryd.prog 84 #[.agg #[.int .i64 x0, .int .i64 x1, .int .i64 x2, .int .i64 x3, .int .i64 x4, .int .i64 x5, .int .i64 x6, .bool x7, .int .i64 x8, .bool x9, .slice a10 n10 c10, .slice a11 n11 c11], .slice a n cap] w fun e w' => e = .returned (.tuple #[.agg #[.int .i64 x0, .int .i64 x1, .int .i64 x2, .int .i64 x3, .int .i64 x4, .int .i64 x5, .int .i64 x6, .bool true, .int .i64 (y), .bool x9, .slice a10 n10 c10, .slice a11 n11 c11], .bool true]) ∧ Below w.heap.size w w' := by
  obtain ⟨hb0, hP, hQ⟩ := two_allocs w (.cells #[.int .i64 x0, .int .i64 x1, .int .i64 x2, .int .i64 x3, .int .i64 x4, .int .i64 x5, .int .i64 x6, .bool x7, .int .i64 x8, .bool x9, .slice a10 n10 c10, .slice a11 n11 c11] sgT) (.cells #[.int .i64 0, .int .i64 0, .int .i64 0, .int .i64 0, .int .i64 0, .int .i64 0, .int .i64 0, .bool false, .int .i64 0, .bool false, .slice none 0 0, .slice none 0 0] sgT)
  have HB : Hid (HoldV ((w.alloc (.cells #[.int .i64 x0, .int .i64 x1, .int .i64 x2, .int .i64 x3, .int .i64 x4, .int .i64 x5, .int .i64 x6, .bool x7, .int .i64 x8, .bool x9, .slice a10 n10 c10, .slice a11 n11 c11] sgT)).alloc (.cells #[.int .i64 0, .int .i64 0, .int .i64 0, .int .i64 0, .int .i64 0, .int .i64 0, .int .i64 0, .bool false, .int .i64 0, .bool false, .slice none 0 0, .slice none 0 0] sgT)) w.heap.size #[.int .i64 x0, .int .i64 x1, .int .i64 x2, .int .i64 x3, .int .i64 x4, .int .i64 x5, .int .i64 x6, .bool x7, .int .i64 x8, .bool x9, .slice a10 n10 c10, .slice a11 n11 c11] sgT) := hide hP
  have HR : Hid (HoldV ((w.alloc (.cells #[.int .i64 x0, .int .i64 x1, .int .i64 x2, .int .i64 x3, .int .i64 x4, .int .i64 x5, .int .i64 x6, .bool x7, .int .i64 x8, .bool x9, .slice a10 n10 c10, .slice a11 n11 c11] sgT)).alloc (.cells #[.int .i64 0, .int .i64 0, .int .i64 0, .int .i64 0, .int .i64 0, .int .i64 0, .int .i64 0, .bool false, .int .i64 0, .bool false, .slice none 0 0, .slice none 0 0] sgT)) (w.heap.size + 1) #[.int .i64 0, .int .i64 0, .int .i64 0, .int .i64 0, .int .i64 0, .int .i64 0, .int .i64 0, .bool false, .int .i64 0, .bool false, .slice none 0 0, .slice none 0 0] sgT) := hide hQ
  have HW := hide hb0
  have HA := hide (ha.below hb0 (Nat.le_refl _))
  have HN := hide hn
  obtain ⟨b, off, rfl, hbw, _⟩ := ha.2 0 (by omega)
  obtain ⟨_, _, ee, _, hc0⟩ := HA.out.2 0 (by omega)
  injection ee with ee; injection ee with ee1 ee2; subst ee1 ee2
  rw [Nat.add_zero] at hc0
  have k0 := HB.out.cell 0 _ rfl; have k1 := HB.out.cell 1 _ rfl; have k2 := HB.out.cell 2 _ rfl; have k3 := HB.out.cell 3 _ rfl; have k4 := HB.out.cell 4 _ rfl; have k5 := HB.out.cell 5 _ rfl; have k6 := HB.out.cell 6 _ rfl; have k7 := HB.out.cell 7 _ rfl; have k8 := HB.out.cell 8 _ rfl; have k9 := HB.out.cell 9 _ rfl; have k10 := HB.out.cell 10 _ rfl; have k11 := HB.out.cell 11 _ rfl
  have r0 := HR.out.cell 0 _ rfl; have r1 := HR.out.cell 1 _ rfl; have r2 := HR.out.cell 2 _ rfl; have r3 := HR.out.cell 3 _ rfl; have r4 := HR.out.cell 4 _ rfl; have r5 := HR.out.cell 5 _ rfl; have r6 := HR.out.cell 6 _ rfl; have r7 := HR.out.cell 7 _ rfl; have r8 := HR.out.cell 8 _ rfl; have r9 := HR.out.cell 9 _ rfl; have r10 := HR.out.cell 10 _ rfl; have r11 := HR.out.cell 11 _ rfl
  have kf := HB.out.frozen; have rf := HR.out.frozen
  clear hP hQ hb0 ha hn
  have h0 : 0 < n := by omega
  rw [hk] at hc0
  subst hb
  obtain ⟨b2, off2, e2, _, hc2⟩ := HA.out.2 2 (by have := HN.out; omega)
  injection e2 with e2; injection e2 with e3 e4; subst e3 e4
  have hz := getD_bd HA.out.1 2
  rw [hy] at hc2 hz
  clear hy
  have hne : b ≠ w.heap.size := by omega
  have hc2q : ∀ W : World, W.cell? ⟨b, off + 2, none⟩ = some (.int .u8 y) → (W.setCell ⟨w.heap.size, 7, none⟩ (.bool true)).cell? ⟨b, off + 2, none⟩ = some (.int .u8 y) := fun W h => by rw [cell_far W _ _ _ hne]; exact h
  have hc2r := hc2q _ hc2
  clear hc2q
  go_enter Tryd.func84, Tryd.ntmps84
  go_upto_region 1 with fail
  generalize ((w.alloc (.cells #[.int .i64 x0, .int .i64 x1, .int .i64 x2, .int .i64 x3, .int .i64 x4, .int .i64 x5, .int .i64 x6, .bool x7, .int .i64 x8, .bool x9, .slice a10 n10 c10, .slice a11 n11 c11] sgT)).alloc (.cells #[.int .i64 0, .int .i64 0, .int .i64 0, .int .i64 0, .int .i64 0, .int .i64 0, .int .i64 0, .bool false, .int .i64 0, .bool false, .slice none 0 0, .slice none 0 0] sgT)) = W at *
  go_upto_region 11 with fail
  have HB2 : Hid (HoldV ((W.setCell ⟨w.heap.size, 7, none⟩ (.bool true)).setCell ⟨w.heap.size, 8, none⟩ (.int .i64 y)) w.heap.size #[.int .i64 x0, .int .i64 x1, .int .i64 x2, .int .i64 x3, .int .i64 x4, .int .i64 x5, .int .i64 x6, .bool true, .int .i64 y, .bool x9, .slice a10 n10 c10, .slice a11 n11 c11] sgT) := hide (by have h := (HB.out.set1s 7 (.bool true)).set1s 8 (.int .i64 y); simpa using h)
  have HR2 : Hid (HoldV ((W.setCell ⟨w.heap.size, 7, none⟩ (.bool true)).setCell ⟨w.heap.size, 8, none⟩ (.int .i64 y)) (w.heap.size + 1) #[.int .i64 0, .int .i64 0, .int .i64 0, .int .i64 0, .int .i64 0, .int .i64 0, .int .i64 0, .bool false, .int .i64 0, .bool false, .slice none 0 0, .slice none 0 0] sgT) := hide ((HR.out.fars w.heap.size 7 (.bool true) (by omega)).fars w.heap.size 8 (.int .i64 y) (by omega))
  have HW2 : Hid (Below w.heap.size w ((W.setCell ⟨w.heap.size, 7, none⟩ (.bool true)).setCell ⟨w.heap.size, 8, none⟩ (.int .i64 y))) := hide ((HW.out.setCell (p := ⟨w.heap.size, 7, none⟩) (Nat.le_refl _) (.bool true)).setCell (p := ⟨w.heap.size, 8, none⟩) (Nat.le_refl _) (.int .i64 y))
  clear k0 r0 k1 r1 k2 r2 k3 r3 k4 r4 k5 r5 k6 r6 k7 r7 k8 r8 k9 r9 k10 r10 k11 r11 kf rf HB HR HW hc2 hc2r hc0
  generalize ((W.setCell ⟨w.heap.size, 7, none⟩ (.bool true)).setCell ⟨w.heap.size, 8, none⟩ (.int .i64 y)) = W2 at *
  have k0 := HB2.out.cell 0 _ rfl; have k1 := HB2.out.cell 1 _ rfl; have k2 := HB2.out.cell 2 _ rfl; have k3 := HB2.out.cell 3 _ rfl; have k4 := HB2.out.cell 4 _ rfl; have k5 := HB2.out.cell 5 _ rfl; have k6 := HB2.out.cell 6 _ rfl; have k7 := HB2.out.cell 7 _ rfl; have k8 := HB2.out.cell 8 _ rfl; have k9 := HB2.out.cell 9 _ rfl; have k10 := HB2.out.cell 10 _ rfl; have k11 := HB2.out.cell 11 _ rfl
  have r0 := HR2.out.cell 0 _ rfl; have r1 := HR2.out.cell 1 _ rfl; have r2 := HR2.out.cell 2 _ rfl; have r3 := HR2.out.cell 3 _ rfl; have r4 := HR2.out.cell 4 _ rfl; have r5 := HR2.out.cell 5 _ rfl; have r6 := HR2.out.cell 6 _ rfl; have r7 := HR2.out.cell 7 _ rfl; have r8 := HR2.out.cell 8 _ rfl; have r9 := HR2.out.cell 9 _ rfl; have r10 := HR2.out.cell 10 _ rfl; have r11 := HR2.out.cell 11 _ rfl
  have kf := HB2.out.frozen; have rf := HR2.out.frozen
  go_wp2_with fail
  refine ret12 (P := fun X => bodyPost Tryd.prog Tryd.f84 _ _ _ X) HR2.out ?_
  intro W9 hr9 hg9
  have hb9 := HW2.out.grown hg9 HW2.out.size (fun k hk => by cases hk; omega)
  clear hg9 k0 r0 k1 r1 k2 r2 k3 r3 k4 r4 k5 r5 k6 r6 k7 r7 k8 r8 k9 r9 k10 r10 k11 r11 kf rf
  have r0 := hr9.cell 0 _ rfl; have r1 := hr9.cell 1 _ rfl; have r2 := hr9.cell 2 _ rfl; have r3 := hr9.cell 3 _ rfl; have r4 := hr9.cell 4 _ rfl; have r5 := hr9.cell 5 _ rfl; have r6 := hr9.cell 6 _ rfl; have r7 := hr9.cell 7 _ rfl; have r8 := hr9.cell 8 _ rfl; have r9 := hr9.cell 9 _ rfl; have r10 := hr9.cell 10 _ rfl; have r11 := hr9.cell 11 _ rfl
  refine bodyPost_ret (v := .tuple #[.agg #[.int .i64 x0, .int .i64 x1, .int .i64 x2, .int .i64 x3, .int .i64 x4, .int .i64 x5, .int .i64 x6, .bool true, .int .i64 (y), .bool x9, .slice a10 n10 c10, .slice a11 n11 c11], .bool true]) (by simp [results, Tryd.results84, go_sem, r0, r1, r2, r3, r4, r5, r6, r7, r8, r9, r10, r11]) rfl ?_
  exact ⟨rfl, hb9⟩
end Go.Proofs.YtcnfnimgpiaamaaDoor
