/-
Contracts of functions of this seat.
-/
import Derived.Test.YthbkhfiadkookaaGreatDoorRows
import Derived.WalkKit
import Derived.ProofKit
import Derived.OpenShut
import Derived.Deep.QuietTactic
import Derived.Below
import Derived.Laws.Externs
import Derived.OwnWalk
import Derived.BigQuiet
import Derived.ArgAppend
import Derived.RegionTactic
import Derived.ChangeAlike
import Derived.Laws.IdiomStrings
import Derived.Laws.BytesArg
import Derived.Deep.RegionHeld3
import Derived.Deep.CutRange
import Derived.LaidEql
import Derived.Stop.Asserts
import Derived.RowKitTokens
import Derived.Laws.CopyOwn
import Derived.Laws.OwnMore
import Derived.StillTailTactics
import Derived.Lib.QuietBelow
import Derived.Test.YthbkhfiadkookaaGreatDoorPe
namespace Go.Proofs.YthbkhfiadkookaaGreatDoor
open Go.ChangeShapes Go.WideShapes Go.ChangeAt Go.RowKit
set_option linter.unusedVariables false
set_option maxRecDepth 100000
set_option maxRecDepth 100000
set_option maxHeartbeats 8000000 in
theorem packet_walk (F : Nat) (w : World) (y0 y1 y2 y3 y4 y5 y6 y7 y8 : Int) (ao : Option Addr) (lo co : Nat) (ap : Option Addr) (lp cp : Nat) (hf : FR w F y0 y1 y2 y3 y4 y5 y6 y7 y8 (.slice ao lo co) (.slice ap lp cp)) (e1 e2 : Bool) (h1 : (bits .and .i64 y4 16384 != 0) = e1) (h2 : (bits .and .i64 y4 8192 != 0) = e2) :
    Calls Tryz.prog 42 #[.pointer (some ⟨F, 0, none⟩)] w fun e w' => e = .returned (.agg #[.int .i64 y1, .int .i64 y3, .bool e1, .bool e2, .int .i64 (y4 % 8192 * 8), .int .i64 y5, .int .i64 y6, .int .i64 y7, .int .i64 y8, .slice ao lo co, .slice ap lp cp]) ∧ Below w.heap.size w w' := by
  have HS := hide (ResP.start w)
  have HF := hide (hf.only (Only.of_below (S := []) HS.out.1) (by simp))
  have H1 := hide h1
  have H2 := hide h2
  clear hf h1 h2
  go_enter Tryz.func42, Tryz.ntmps42
  go_wp2_with fail
  have HS2 := hide (HS.out.next (below_drewN (Below.refl _ _) 1))
  have HF2 := hide (FR.drewN HF.out 1)
  refine region_tail 52 (by kernel_rfl) (by kernel_rfl) ?_
  clear HS HF
  generalize hW : (w.alloc (.cells #[.int .i64 0, .int .i64 0, .bool false, .bool false, .int .i64 0, .int .i64 0, .int .i64 0, .int .i64 0, .int .i64 0, .slice none 0 0, .slice none 0 0] 24)).drew = V at *
  have HS : Hid (ResP w V) := hide (by rw [← hW]; exact HS2.out)
  have HF : Hid (FR V F y0 y1 y2 y3 y4 y5 y6 y7 y8 (.slice ao lo co) (.slice ap lp cp)) := hide (by rw [← hW]; exact HF2.out)
  clear hW HS2 HF2
  obtain ⟨f0, f1, f2, f3, f4, f5, f6, f7, f8, f9, f10, ff⟩ := HF.out.cells
  simp only [List.take_succ_cons, List.take_zero, List.drop_succ_cons, List.drop_zero]
  repeat (first | go_big_quiet_skip | (go_big_quiet_want; go_big_quiet_op; first | go_big_quiet_on | (apply Exists.intro; refine ⟨?_, ?_⟩; (first | (go_at_call_of 75 (Value.int IntKind.i64 16384); exact has_lit F y4 16384 e1 V f4 H1.out) | (go_at_call_of 75 (Value.int IntKind.i64 8192); exact has_lit F y4 8192 e2 V f4 H2.out) | (go_at_call 76; exact hoffset_walk F y4 V f4)); go_big_quiet_on)))
  refine wpQuiet_nil ?_
  clear f0 f1 f2 f3 f4 f5 f6 f7 f8 f9 f10 ff
  obtain ⟨d0, d1, d2, d3, d4, d5, d6, d7, d8, d9, d10, df⟩ := cellsP HS.out.2.2
  go_wp2_with fail
  exact bodyPost_ret (v := .agg #[.int .i64 y1, .int .i64 y3, .bool e1, .bool e2, .int .i64 (y4 % 8192 * 8), .int .i64 y5, .int .i64 y6, .int .i64 y7, .int .i64 y8, .slice ao lo co, .slice ap lp cp]) (by simp [results, Tryz.results42, go_sem, d0, d1, d2, d3, d4, d5, d6, d7, d8, d9, d10]) rfl ⟨rfl, below_11 HS.out.1⟩

theorem far11 {w : World} {R F j : Nat} (h : R ≠ F) {v : Option Value} {x0 x1 x2 x3 x4 x5 x6 x7 x8 x9 x10 : Value} (k : w.cell? ⟨F, j, none⟩ = v) : (((((((((((w.setCell ⟨R, 0, none⟩ x0).setCell ⟨R, 1, none⟩ x1).setCell ⟨R, 2, none⟩ x2).setCell ⟨R, 3, none⟩ x3).setCell ⟨R, 4, none⟩ x4).setCell ⟨R, 5, none⟩ x5).setCell ⟨R, 6, none⟩ x6).setCell ⟨R, 7, none⟩ x7).setCell ⟨R, 8, none⟩ x8).setCell ⟨R, 9, none⟩ x9).setCell ⟨R, 10, none⟩ x10).cell? ⟨F, j, none⟩ = v := (World.cell?_setCell_far _ _ _ _ h).trans ((World.cell?_setCell_far _ _ _ _ h).trans ((World.cell?_setCell_far _ _ _ _ h).trans ((World.cell?_setCell_far _ _ _ _ h).trans ((World.cell?_setCell_far _ _ _ _ h).trans ((World.cell?_setCell_far _ _ _ _ h).trans ((World.cell?_setCell_far _ _ _ _ h).trans ((World.cell?_setCell_far _ _ _ _ h).trans ((World.cell?_setCell_far _ _ _ _ h).trans ((World.cell?_setCell_far _ _ _ _ h).trans ((World.cell?_setCell_far _ _ _ _ h).trans (k)))))))))))
theorem DS0.onlyg {w W W' : World} {zr : Array Value} {T p p' : Nat} {bv ev bv' ev' : Value} (h : DS0 w W zr T bv p ev) (k : Only [w.heap.size + 1] W W') (hc : Cur W' (w.heap.size + 1) bv' p' ev') : DS0 w W' zr T bv' p' ev' :=
  ⟨h.1.trans (k.below (by intro x hx; simp at hx; omega) h.1.size), (k.block _ h.2.1.lt (by simp)).trans h.2.1, hc⟩
theorem size_two (w : World) (o1 o2 : Obj) : ((w.alloc o1).alloc o2).heap.size = w.heap.size + 2 := by
  have s1 := World.size_alloc w o1
  have s2 := World.size_alloc (w.alloc o1) o2
  omega
set_option maxHeartbeats 8000000 in
theorem implDecIP_bad (a : Option Addr) (n cap : Nat) (c : Int) (hc0 : c ≠ 0) (w : World) (he : ErrT w)
    (hP : ∀ W, Cur W (w.heap.size + 1) (.slice a n cap) 0 .nilIface → Below w.heap.size w W → W.heap.size = w.heap.size + 2 → Calls Tryz.prog 40 #[.pointer (some ⟨w.heap.size + 1, 0, none⟩)] W fun e w' => ∃ (p : Nat) (y0 y1 y2 y3 y4 y5 y6 y7 y8 : Int) (ao : Option Addr) (lo co : Nat) (ap : Option Addr) (lp cp : Nat), e = .returned (.agg #[.int .i64 y0, .int .i64 y1, .int .i64 y2, .int .i64 y3, .int .i64 y4, .int .i64 y5, .int .i64 y6, .int .i64 y7, .int .i64 y8, .slice ao lo co, .slice ap lp cp]) ∧ Cur w' (w.heap.size + 1) (.slice a n cap) p (wErr c) ∧ Only [w.heap.size + 1] W w') :
    Calls Tryz.prog 10 #[.slice a n cap] w fun e w' => e = .returned (.tuple #[.agg #[.int .i64 0, .int .i64 0, .bool false, .bool false, .int .i64 0, .int .i64 0, .int .i64 0, .int .i64 0, .int .i64 0, .slice none 0 0, .slice none 0 0], .int .i64 c]) ∧ Below w.heap.size w w' := by
  have HS0 := hide (DS0.start w #[.int .i64 0, .int .i64 0, .bool false, .bool false, .int .i64 0, .int .i64 0, .int .i64 0, .int .i64 0, .int .i64 0, .slice none 0 0, .slice none 0 0] 24 (.slice a n cap))
  have HSZ := hide (size_two w (.cells #[.int .i64 0, .int .i64 0, .bool false, .bool false, .int .i64 0, .int .i64 0, .int .i64 0, .int .i64 0, .int .i64 0, .slice none 0 0, .slice none 0 0] 24) (.cells #[.slice a n cap, .int .i64 0, .nilIface] 65))
  have HP := hide hP
  clear hP
  have HE := hide he
  have HC0 := hide hc0
  clear he hc0
  go_enter Tryz.func10, Tryz.ntmps10
  go_wp2_with fail
  generalize hW : (w.alloc (.cells #[.int .i64 0, .int .i64 0, .bool false, .bool false, .int .i64 0, .int .i64 0, .int .i64 0, .int .i64 0, .int .i64 0, .slice none 0 0, .slice none 0 0] 24)).alloc (.cells #[.slice a n cap, .int .i64 0, .nilIface] 65) = W at *
  clear hW
  refine (HP.out W HS0.out.2.2 HS0.out.1 HSZ.out).mono ?_
  rintro e W1 ⟨p, y0, y1, y2, y3, y4, y5, y6, y7, y8, ao, lo, co, ap, lp, cp, rfl, hc1, ho1⟩
  have HS1 := hide (HS0.out.onlyg ho1 hc1)
  clear HP HS0 HSZ hc1 ho1
  have hal := (Below.refl W1.heap.size W1).alloc (Nat.le_refl _) (.cells #[.int .i64 y0, .int .i64 y1, .int .i64 y2, .int .i64 y3, .int .i64 y4, .int .i64 y5, .int .i64 y6, .int .i64 y7, .int .i64 y8, .slice ao lo co, .slice ap lp cp] 77)
  have HF2 : Hid (FR (W1.alloc (.cells #[.int .i64 y0, .int .i64 y1, .int .i64 y2, .int .i64 y3, .int .i64 y4, .int .i64 y5, .int .i64 y6, .int .i64 y7, .int .i64 y8, .slice ao lo co, .slice ap lp cp] 77)) W1.heap.size y0 y1 y2 y3 y4 y5 y6 y7 y8 (.slice ao lo co) (.slice ap lp cp)) := hide (heap_alloc_new _ _)
  have HS2 := hide (HS1.out.next hal)
  clear hal HS1
  go_wp2_with fail
  generalize hV : W1.alloc (.cells #[.int .i64 y0, .int .i64 y1, .int .i64 y2, .int .i64 y3, .int .i64 y4, .int .i64 y5, .int .i64 y6, .int .i64 y7, .int .i64 y8, .slice ao lo co, .slice ap lp cp] 77) = V at *
  clear hV
  generalize W1.heap.size = F at *
  obtain ⟨e1, h1⟩ : ∃ e1, (bits .and .i64 y4 16384 != 0) = e1 := ⟨_, rfl⟩
  obtain ⟨e2, h2⟩ : ∃ e2, (bits .and .i64 y4 8192 != 0) = e2 := ⟨_, rfl⟩
  have H1 := hide h1
  have H2 := hide h2
  clear h1 h2
  have HSD := hide (HS2.out.next ((Below.refl _ _).drew))
  have CPK := hide (packet_walk F V.drew y0 y1 y2 y3 y4 y5 y6 y7 y8 ao lo co ap lp cp (FR.drew HF2.out) e1 e2 H1.out H2.out)
  have HED := hide (HE.out.below HSD.out.1 (Nat.le_refl _))
  have CA := hide (fun (W : World) (h : ErrT W) => ansPacket_err y1 y3 e1 e2 (y4 % 8192 * 8) y5 y6 y7 y8 ao lo co ap lp cp c HC0.out W h)
  clear HE
  have HK : Hid (V.drew.cell? ⟨w.heap.size + 1, 2, none⟩ = some (wErr c)) := hide HSD.out.2.2.cells.2.2.1
  have hRC : w.heap.size ≠ w.heap.size + 1 := by omega
  clear HS2 HF2 H1 H2
  go_region_held3 (fun w' => w'.cell? ⟨w.heap.size + 1, 2, none⟩ = some (wErr c)) (first | with_reducible assumption | with_reducible exact HK.out | exact far11 hRC hk9)
    (first
      | (go_at_call 42; refine CPK.out.mono ?_; rintro e w7 ⟨rfl, hb7⟩; have hk7 : w7.cell? ⟨w.heap.size + 1, 2, none⟩ = some (wErr c) := (HSD.out.next hb7).2.2.cells.2.2.1)
      | (go_at_call 41; refine (CA.out _ (HED.out.below hb7 (Nat.le_refl _))).mono ?_; rintro e w8 ⟨rfl, hb8⟩; have hk9 : w8.cell? ⟨w.heap.size + 1, 2, none⟩ = some (wErr c) := ((HSD.out.next hb7).next hb8).2.2.cells.2.2.1; have d0 := ((HSD.out.next hb7).next hb8).2.1.cell 0 _ rfl; have d1 := ((HSD.out.next hb7).next hb8).2.1.cell 1 _ rfl; have d2 := ((HSD.out.next hb7).next hb8).2.1.cell 2 _ rfl; have d3 := ((HSD.out.next hb7).next hb8).2.1.cell 3 _ rfl; have d4 := ((HSD.out.next hb7).next hb8).2.1.cell 4 _ rfl; have d5 := ((HSD.out.next hb7).next hb8).2.1.cell 5 _ rfl; have d6 := ((HSD.out.next hb7).next hb8).2.1.cell 6 _ rfl; have d7 := ((HSD.out.next hb7).next hb8).2.1.cell 7 _ rfl; have d8 := ((HSD.out.next hb7).next hb8).2.1.cell 8 _ rfl; have d9 := ((HSD.out.next hb7).next hb8).2.1.cell 9 _ rfl; have d10 := ((HSD.out.next hb7).next hb8).2.1.cell 10 _ rfl; have fz := ((HSD.out.next hb7).next hb8).2.1.frozen))
  all_goals
    have HS9 := hide ((HSD.out.next hb7).next hb8)
    clear hb7 hb8 HSD CA CPK HK hk7 hk9
    go_wp2_with fail
    exact bodyPost_ret (v := .tuple #[.agg #[.int .i64 0, .int .i64 0, .bool false, .bool false, .int .i64 0, .int .i64 0, .int .i64 0, .int .i64 0, .int .i64 0, .slice none 0 0, .slice none 0 0], .int .i64 c]) (by simp [results, Tryz.results10, go_sem, d0, d1, d2, d3, d4, d5, d6, d7, d8, d9, d10]) rfl ⟨rfl, (((((((((((HS9.out.1.setCell (p := ⟨w.heap.size, 0, none⟩) (Nat.le_refl _) _).setCell (p := ⟨w.heap.size, 1, none⟩) (Nat.le_refl _) _).setCell (p := ⟨w.heap.size, 2, none⟩) (Nat.le_refl _) _).setCell (p := ⟨w.heap.size, 3, none⟩) (Nat.le_refl _) _).setCell (p := ⟨w.heap.size, 4, none⟩) (Nat.le_refl _) _).setCell (p := ⟨w.heap.size, 5, none⟩) (Nat.le_refl _) _).setCell (p := ⟨w.heap.size, 6, none⟩) (Nat.le_refl _) _).setCell (p := ⟨w.heap.size, 7, none⟩) (Nat.le_refl _) _).setCell (p := ⟨w.heap.size, 8, none⟩) (Nat.le_refl _) _).setCell (p := ⟨w.heap.size, 9, none⟩) (Nat.le_refl _) _).setCell (p := ⟨w.heap.size, 10, none⟩) (Nat.le_refl _) _)⟩
set_option maxHeartbeats 8000000 in
theorem implDecIP_good (a : Option Addr) (n cap : Nat) (w : World) (y0 y1 y2 y3 y4 y5 y6 y7 y8 : Int) (lo lp : Nat) (LO LP : List Int) (e1 e2 : Bool) (h1 : (bits .and .i64 y4 16384 != 0) = e1) (h2 : (bits .and .i64 y4 8192 != 0) = e2)
    (hP : ∀ W, Cur W (w.heap.size + 1) (.slice a n cap) 0 .nilIface → Below w.heap.size w W → W.heap.size = w.heap.size + 2 → Calls Tryz.prog 40 #[.pointer (some ⟨w.heap.size + 1, 0, none⟩)] W fun e w' => ∃ (p : Nat) (ao ap : Option Addr) (co cp : Nat), e = .returned (.agg #[.int .i64 y0, .int .i64 y1, .int .i64 y2, .int .i64 y3, .int .i64 y4, .int .i64 y5, .int .i64 y6, .int .i64 y7, .int .i64 y8, .slice ao lo co, .slice ap lp cp]) ∧ Cur w' (w.heap.size + 1) (.slice a n cap) p .nilIface ∧ OwnB w' (W.heap.size + 2) (.slice ao lo co) LO ∧ OwnB w' (W.heap.size + 2) (.slice ap lp cp) LP ∧ (∀ k, (Value.slice ao lo co).ownBlock = some k → (Value.slice ap lp cp).ownBlock ≠ some k) ∧ Only [w.heap.size + 1] W w') :
    Calls Tryz.prog 10 #[.slice a n cap] w fun e w' => ∃ v0 v1 : Value, e = .returned (.tuple #[.agg #[.int .i64 y1, .int .i64 y3, .bool e1, .bool e2, .int .i64 (y4 % 8192 * 8), .int .i64 y5, .int .i64 y6, .int .i64 y7, .int .i64 y8, v0, v1], .int .i64 0]) ∧ OwnB w' w.heap.size v0 LO ∧ OwnB w' w.heap.size v1 LP ∧ (∀ k, v0.ownBlock = some k → v1.ownBlock ≠ some k) ∧ Below w.heap.size w w' := by
  have HS0 := hide (DS0.start w #[.int .i64 0, .int .i64 0, .bool false, .bool false, .int .i64 0, .int .i64 0, .int .i64 0, .int .i64 0, .int .i64 0, .slice none 0 0, .slice none 0 0] 24 (.slice a n cap))
  have HSZ := hide (size_two w (.cells #[.int .i64 0, .int .i64 0, .bool false, .bool false, .int .i64 0, .int .i64 0, .int .i64 0, .int .i64 0, .int .i64 0, .slice none 0 0, .slice none 0 0] 24) (.cells #[.slice a n cap, .int .i64 0, .nilIface] 65))
  have HP := hide hP
  clear hP
  have H1 := hide h1
  have H2 := hide h2
  clear h1 h2
  go_enter Tryz.func10, Tryz.ntmps10
  go_wp2_with fail
  generalize hW : (w.alloc (.cells #[.int .i64 0, .int .i64 0, .bool false, .bool false, .int .i64 0, .int .i64 0, .int .i64 0, .int .i64 0, .int .i64 0, .slice none 0 0, .slice none 0 0] 24)).alloc (.cells #[.slice a n cap, .int .i64 0, .nilIface] 65) = W at *
  clear hW
  refine (HP.out W HS0.out.2.2 HS0.out.1 HSZ.out).mono ?_
  rintro e W1 ⟨p, ao, ap, co, cp, rfl, hc1, hO1, hO2, hap, ho1⟩
  have HS1 := hide (HS0.out.onlyg ho1 hc1)
  have hws := HSZ.out
  have HO1 := hide (hO1.mono (show w.heap.size + 1 ≤ W.heap.size + 2 by omega))
  have HO2 := hide (hO2.mono (show w.heap.size + 1 ≤ W.heap.size + 2 by omega))
  have HAP := hide hap
  clear hO1 hO2 hap hws
  clear HP HS0 HSZ hc1 ho1
  have hal := (Below.refl W1.heap.size W1).alloc (Nat.le_refl _) (.cells #[.int .i64 y0, .int .i64 y1, .int .i64 y2, .int .i64 y3, .int .i64 y4, .int .i64 y5, .int .i64 y6, .int .i64 y7, .int .i64 y8, .slice ao lo co, .slice ap lp cp] 77)
  have HF2 : Hid (FR (W1.alloc (.cells #[.int .i64 y0, .int .i64 y1, .int .i64 y2, .int .i64 y3, .int .i64 y4, .int .i64 y5, .int .i64 y6, .int .i64 y7, .int .i64 y8, .slice ao lo co, .slice ap lp cp] 77)) W1.heap.size y0 y1 y2 y3 y4 y5 y6 y7 y8 (.slice ao lo co) (.slice ap lp cp)) := hide (heap_alloc_new _ _)
  have HS2 := hide (HS1.out.next hal)
  have HP1 := hide (HO1.out.next hal)
  have HP2 := hide (HO2.out.next hal)
  clear HO1 HO2
  clear hal HS1
  go_wp2_with fail
  generalize hV : W1.alloc (.cells #[.int .i64 y0, .int .i64 y1, .int .i64 y2, .int .i64 y3, .int .i64 y4, .int .i64 y5, .int .i64 y6, .int .i64 y7, .int .i64 y8, .slice ao lo co, .slice ap lp cp] 77) = V at *
  clear hV
  generalize W1.heap.size = F at *
  have HSD := hide (HS2.out.next ((Below.refl _ _).drew))
  have CPK := hide (packet_walk F V.drew y0 y1 y2 y3 y4 y5 y6 y7 y8 ao lo co ap lp cp (FR.drew HF2.out) e1 e2 H1.out H2.out)
  have HQ1 := hide HP1.out.drew
  have HQ2 := hide HP2.out.drew
  have CA := hide (fun W => ansPacket_nil y1 y3 e1 e2 (y4 % 8192 * 8) y5 y6 y7 y8 ao lo co ap lp cp W)
  clear HP1 HP2
  have HK : Hid (V.drew.cell? ⟨w.heap.size + 1, 2, none⟩ = some .nilIface) := hide HSD.out.2.2.cells.2.2.1
  have hRC : w.heap.size ≠ w.heap.size + 1 := by omega
  clear HS2 HF2 H1 H2
  go_region_held3 (fun w' => w'.cell? ⟨w.heap.size + 1, 2, none⟩ = some .nilIface) (first | with_reducible assumption | with_reducible exact HK.out | exact far11 hRC hk9)
    (first
      | (go_at_call 42; refine CPK.out.mono ?_; rintro e w7 ⟨rfl, hb7⟩; have hk7 : w7.cell? ⟨w.heap.size + 1, 2, none⟩ = some .nilIface := (HSD.out.next hb7).2.2.cells.2.2.1)
      | (go_at_call 41; refine (CA.out _).mono ?_; rintro e w8 ⟨rfl, hb8⟩; have hk9 : w8.cell? ⟨w.heap.size + 1, 2, none⟩ = some .nilIface := ((HSD.out.next hb7).next hb8).2.2.cells.2.2.1; have d0 := ((HSD.out.next hb7).next hb8).2.1.cell 0 _ rfl; have d1 := ((HSD.out.next hb7).next hb8).2.1.cell 1 _ rfl; have d2 := ((HSD.out.next hb7).next hb8).2.1.cell 2 _ rfl; have d3 := ((HSD.out.next hb7).next hb8).2.1.cell 3 _ rfl; have d4 := ((HSD.out.next hb7).next hb8).2.1.cell 4 _ rfl; have d5 := ((HSD.out.next hb7).next hb8).2.1.cell 5 _ rfl; have d6 := ((HSD.out.next hb7).next hb8).2.1.cell 6 _ rfl; have d7 := ((HSD.out.next hb7).next hb8).2.1.cell 7 _ rfl; have d8 := ((HSD.out.next hb7).next hb8).2.1.cell 8 _ rfl; have d9 := ((HSD.out.next hb7).next hb8).2.1.cell 9 _ rfl; have d10 := ((HSD.out.next hb7).next hb8).2.1.cell 10 _ rfl; have fz := ((HSD.out.next hb7).next hb8).2.1.frozen))
  all_goals
    have HS9 := hide ((HSD.out.next hb7).next hb8)
    have HR1 := hide ((HQ1.out.next hb7).next hb8)
    have HR2 := hide ((HQ2.out.next hb7).next hb8)
    clear hb7 hb8 HSD CA CPK HK hk7 hk9
    go_wp2_with fail
    exact bodyPost_ret (v := .tuple #[.agg #[.int .i64 y1, .int .i64 y3, .bool e1, .bool e2, .int .i64 (y4 % 8192 * 8), .int .i64 y5, .int .i64 y6, .int .i64 y7, .int .i64 y8, .slice ao lo co, .slice ap lp cp], .int .i64 0]) (by simp [results, Tryz.results10, go_sem, d0, d1, d2, d3, d4, d5, d6, d7, d8, d9, d10]) rfl ⟨_, _, rfl, (((((((((((HR1.out.setBelow (a := ⟨w.heap.size, 0, none⟩) (Nat.lt_succ_self _) _).setBelow (a := ⟨w.heap.size, 1, none⟩) (Nat.lt_succ_self _) _).setBelow (a := ⟨w.heap.size, 2, none⟩) (Nat.lt_succ_self _) _).setBelow (a := ⟨w.heap.size, 3, none⟩) (Nat.lt_succ_self _) _).setBelow (a := ⟨w.heap.size, 4, none⟩) (Nat.lt_succ_self _) _).setBelow (a := ⟨w.heap.size, 5, none⟩) (Nat.lt_succ_self _) _).setBelow (a := ⟨w.heap.size, 6, none⟩) (Nat.lt_succ_self _) _).setBelow (a := ⟨w.heap.size, 7, none⟩) (Nat.lt_succ_self _) _).setBelow (a := ⟨w.heap.size, 8, none⟩) (Nat.lt_succ_self _) _).setBelow (a := ⟨w.heap.size, 9, none⟩) (Nat.lt_succ_self _) _).setBelow (a := ⟨w.heap.size, 10, none⟩) (Nat.lt_succ_self _) _).mono (Nat.le_succ _), (((((((((((HR2.out.setBelow (a := ⟨w.heap.size, 0, none⟩) (Nat.lt_succ_self _) _).setBelow (a := ⟨w.heap.size, 1, none⟩) (Nat.lt_succ_self _) _).setBelow (a := ⟨w.heap.size, 2, none⟩) (Nat.lt_succ_self _) _).setBelow (a := ⟨w.heap.size, 3, none⟩) (Nat.lt_succ_self _) _).setBelow (a := ⟨w.heap.size, 4, none⟩) (Nat.lt_succ_self _) _).setBelow (a := ⟨w.heap.size, 5, none⟩) (Nat.lt_succ_self _) _).setBelow (a := ⟨w.heap.size, 6, none⟩) (Nat.lt_succ_self _) _).setBelow (a := ⟨w.heap.size, 7, none⟩) (Nat.lt_succ_self _) _).setBelow (a := ⟨w.heap.size, 8, none⟩) (Nat.lt_succ_self _) _).setBelow (a := ⟨w.heap.size, 9, none⟩) (Nat.lt_succ_self _) _).setBelow (a := ⟨w.heap.size, 10, none⟩) (Nat.lt_succ_self _) _).mono (Nat.le_succ _), HAP.out, (((((((((((HS9.out.1.setCell (p := ⟨w.heap.size, 0, none⟩) (Nat.le_refl _) _).setCell (p := ⟨w.heap.size, 1, none⟩) (Nat.le_refl _) _).setCell (p := ⟨w.heap.size, 2, none⟩) (Nat.le_refl _) _).setCell (p := ⟨w.heap.size, 3, none⟩) (Nat.le_refl _) _).setCell (p := ⟨w.heap.size, 4, none⟩) (Nat.le_refl _) _).setCell (p := ⟨w.heap.size, 5, none⟩) (Nat.le_refl _) _).setCell (p := ⟨w.heap.size, 6, none⟩) (Nat.le_refl _) _).setCell (p := ⟨w.heap.size, 7, none⟩) (Nat.le_refl _) _).setCell (p := ⟨w.heap.size, 8, none⟩) (Nat.le_refl _) _).setCell (p := ⟨w.heap.size, 9, none⟩) (Nat.le_refl _) _).setCell (p := ⟨w.heap.size, 10, none⟩) (Nat.le_refl _) _)⟩
set_option maxRecDepth 100000
theorem far4 {w : World} {R F j : Nat} (h : R ≠ F) {v : Option Value} {x0 x1 x2 x3 : Value} (k : w.cell? ⟨F, j, none⟩ = v) : ((((w.setCell ⟨R, 0, none⟩ x0).setCell ⟨R, 1, none⟩ x1).setCell ⟨R, 2, none⟩ x2).setCell ⟨R, 3, none⟩ x3).cell? ⟨F, j, none⟩ = v := (World.cell?_setCell_far _ _ _ _ h).trans ((World.cell?_setCell_far _ _ _ _ h).trans ((World.cell?_setCell_far _ _ _ _ h).trans ((World.cell?_setCell_far _ _ _ _ h).trans (k))))
set_option maxHeartbeats 8000000 in
theorem implDecI_short (a : Option Addr) (n cap : Nat) (zs : List Int) (w : World) (hn : zs.length = n) (ha : Arr w a zs) (hm : n ≤ 1048576) (he : ErrT w) (h : n < 8) :
    Calls Tryz.prog 11 #[.slice a n cap] w fun e w' => e = .returned (.tuple #[.agg #[.int .i64 0, .int .i64 0, .int .i64 0, .slice none 0 0], .int .i64 2]) ∧ Below w.heap.size w w' := by
  have HS0 := hide (DS0.start w #[.int .i64 0, .int .i64 0, .int .i64 0, .slice none 0 0] 34 (.slice a n cap))
  have HA := hide ha
  have HN := hide hn
  have HE := hide he
  clear he
  have hd1 : decide ((8 : Int) ≤ (n : Int)) = false := decide_eq_false (by omega)
  clear ha hn
  go_enter Tryz.func11, Tryz.ntmps11
  go_wp2_with fail
  generalize hW : (w.alloc (.cells #[.int .i64 0, .int .i64 0, .int .i64 0, .slice none 0 0] 34)).alloc (.cells #[.slice a n cap, .int .i64 0, .nilIface] 65) = W0 at *
  clear hW
  refine (demand_no (w.heap.size + 1) 0 (.slice a n cap) _ _ HS0.out.2.2).mono ?_
  rintro e W1 ⟨rfl, hc, hg⟩
  have HS1 := hide (HS0.out.moved hg hc)
  clear hc hg HS0
  go_wp2_with fail
  refine (demand_err (w.heap.size + 1) 0 (.slice a n cap) 2 _ _ _ HS1.out.2.2).mono ?_
  rintro e w' ⟨rfl, hw⟩
  rw [hw]
  clear hw
  go_wp2_with fail
  have hk := checksum_walk a n cap zs W1 HN.out (HA.out.below HS1.out.1 (Nat.le_refl _)) hm
  have CK : Hid (Calls Tryz.prog 43 #[.slice a n cap] W1 fun e w' => e = .returned (.int .i64 (csum zs)) ∧ Below W1.heap.size W1 w') := hide (hk.mono (by rintro e w' ⟨rfl, hb, _⟩; refine ⟨?_, hb⟩; unfold csum; rw [HN.out]))
  clear hk
  refine CK.out.mono ?_
  rintro e W2 ⟨rfl, hb⟩
  have HS2 := hide (HS1.out.next hb)
  clear CK hb HS1
  go_wp2_with fail
  refine (demand_err (w.heap.size + 1) 0 (.slice a n cap) 2 _ _ _ HS2.out.2.2).mono ?_
  rintro e w' ⟨rfl, hw⟩
  rw [hw]
  clear hw
  have HT0 := hide (DS1.start HS2.out #[.int .i64 0, .int .i64 0, .int .i64 0, .slice none 0 0] 34)
  have hF : w.heap.size + 1 < W2.heap.size := HS2.out.2.2.lt
  clear HS2
  go_wp2_with fail
  generalize hV : W2.alloc (.cells #[.int .i64 0, .int .i64 0, .int .i64 0, .slice none 0 0] 34) = V0 at *
  clear hV
  generalize W2.heap.size = F at *
  refine (take_err (w.heap.size + 1) 0 n cap _ 2 1 _ HT0.out.1.2.2 (by omega) (by omega) (by omega) (by omega)).mono ?_
  rintro e w' ⟨rfl, mm, rfl⟩
  have HT1 : Hid (DS1 w (V0.drewN mm) #[.int .i64 0, .int .i64 0, .int .i64 0, .slice none 0 0] 34 (.slice a n cap) (0) (wErr 2) F #[.int .i64 0, .int .i64 0, .int .i64 0, .slice none 0 0] 34) := hide (HT0.out.drewN mm)
  generalize V0.drewN mm = V1 at *
  clear HT0
  have k0 := HT1.out.2.1.cell 0 _ rfl
  have fz := HT1.out.2.1.frozen
  have HT2 : Hid (DS1 w (V1.setCell ⟨F, 0, none⟩ (.int .i64 0)) #[.int .i64 0, .int .i64 0, .int .i64 0, .slice none 0 0] 34 (.slice a n cap) (0) (wErr 2) F #[.int .i64 0, .int .i64 0, .int .i64 0, .slice none 0 0] 34) := hide (HT1.out.set 0 (.int .i64 0))
  go_wp2_with fail
  generalize V1.setCell ⟨F, 0, none⟩ (.int .i64 0) = V2 at *
  clear k0 fz HT1
  refine (take_err (w.heap.size + 1) 0 n cap _ 2 1 _ HT2.out.1.2.2 (by omega) (by omega) (by omega) (by omega)).mono ?_
  rintro e w' ⟨rfl, mm, rfl⟩
  have HT3 : Hid (DS1 w (V2.drewN mm) #[.int .i64 0, .int .i64 0, .int .i64 0, .slice none 0 0] 34 (.slice a n cap) (0) (wErr 2) F #[.int .i64 0, .int .i64 0, .int .i64 0, .slice none 0 0] 34) := hide (HT2.out.drewN mm)
  generalize V2.drewN mm = V3 at *
  clear HT2
  have k0 := HT3.out.2.1.cell 1 _ rfl
  have fz := HT3.out.2.1.frozen
  have HT4 : Hid (DS1 w (V3.setCell ⟨F, 1, none⟩ (.int .i64 0)) #[.int .i64 0, .int .i64 0, .int .i64 0, .slice none 0 0] 34 (.slice a n cap) (0) (wErr 2) F #[.int .i64 0, .int .i64 0, .int .i64 0, .slice none 0 0] 34) := hide (HT3.out.set 1 (.int .i64 0))
  go_wp2_with fail
  generalize V3.setCell ⟨F, 1, none⟩ (.int .i64 0) = V4 at *
  clear k0 fz HT3
  refine (pass_err (w.heap.size + 1) 0 n cap _ 2 2 _ HT4.out.1.2.2 (by omega) (by omega) (by omega) (by omega)).mono ?_
  rintro e w' ⟨rfl, mm, rfl⟩
  have HT5 : Hid (DS1 w (V4.drewN mm) #[.int .i64 0, .int .i64 0, .int .i64 0, .slice none 0 0] 34 (.slice a n cap) (0) (wErr 2) F #[.int .i64 0, .int .i64 0, .int .i64 0, .slice none 0 0] 34) := hide (HT4.out.drewN mm)
  generalize V4.drewN mm = V5 at *
  clear HT4
  go_wp2_with fail
  refine (take_err (w.heap.size + 1) 0 n cap _ 2 4 _ HT5.out.1.2.2 (by omega) (by omega) (by omega) (by omega)).mono ?_
  rintro e w' ⟨rfl, mm, rfl⟩
  have HT6 : Hid (DS1 w (V5.drewN mm) #[.int .i64 0, .int .i64 0, .int .i64 0, .slice none 0 0] 34 (.slice a n cap) (0) (wErr 2) F #[.int .i64 0, .int .i64 0, .int .i64 0, .slice none 0 0] 34) := hide (HT5.out.drewN mm)
  generalize V5.drewN mm = V6 at *
  clear HT5
  have k0 := HT6.out.2.1.cell 2 _ rfl
  have fz := HT6.out.2.1.frozen
  have HT7 : Hid (DS1 w (V6.setCell ⟨F, 2, none⟩ (.int .i64 0)) #[.int .i64 0, .int .i64 0, .int .i64 0, .slice none 0 0] 34 (.slice a n cap) (0) (wErr 2) F #[.int .i64 0, .int .i64 0, .int .i64 0, .slice none 0 0] 34) := hide (HT6.out.set 2 (.int .i64 0))
  go_wp2_with fail
  generalize V6.setCell ⟨F, 2, none⟩ (.int .i64 0) = V7 at *
  clear k0 fz HT6
  refine (left_walk (w.heap.size + 1) 0 n cap _ _ _ HT7.out.1.2.2 (by omega) (by omega)).mono ?_
  rintro e w' ⟨rfl, mm, rfl⟩
  have HT8 : Hid (DS1 w (V7.drewN mm) #[.int .i64 0, .int .i64 0, .int .i64 0, .slice none 0 0] 34 (.slice a n cap) (0) (wErr 2) F #[.int .i64 0, .int .i64 0, .int .i64 0, .slice none 0 0] 34) := hide (HT7.out.drewN mm)
  generalize V7.drewN mm = V8 at *
  clear HT7
  go_wp2_with fail
  have C := hide (takeBytes_err (w.heap.size + 1) 0 n cap _ 2 (n : Int) V8 HT8.out.1.2.2 (by omega) (by omega) (by omega) (by omega))
  refine C.out.mono ?_
  rintro e V9 ⟨rfl, hb⟩
  have HT9 := hide (HT8.out.next hb)
  clear C hb HT8
  generalize V8.heap.size = XB at *
  have k0 := HT9.out.2.1.cell 3 _ rfl
  have fz := HT9.out.2.1.frozen
  have HT10 : Hid (DS1 w (V9.setCell ⟨F, 3, none⟩ (.slice (some ⟨XB, 0, none⟩) 0 0)) #[.int .i64 0, .int .i64 0, .int .i64 0, .slice none 0 0] 34 (.slice a n cap) (0) (wErr 2) F #[.int .i64 0, .int .i64 0, .int .i64 0, .slice (some ⟨XB, 0, none⟩) 0 0] 34) := hide (HT9.out.set 3 (.slice (some ⟨XB, 0, none⟩) 0 0))
  go_wp2_with fail
  generalize V9.setCell ⟨F, 3, none⟩ (.slice (some ⟨XB, 0, none⟩) 0 0) = V10 at *
  clear k0 fz HT9
  have HTD := hide (HT10.out.drew)
  have HE7 := hide (HE.out.below HTD.out.1.1 (Nat.le_refl _))
  clear HE
  have CA := hide (ansIcmp_err (0) (0) (0) (some ⟨XB, 0, none⟩) 0 0 2 (by decide) V10.drew HE7.out)
  have HK : Hid (V10.drew.cell? ⟨F, 0, none⟩ = some (.int .i64 0) ∧ V10.drew.cell? ⟨F, 1, none⟩ = some (.int .i64 0) ∧ V10.drew.cell? ⟨F, 2, none⟩ = some (.int .i64 0) ∧ V10.drew.cell? ⟨F, 3, none⟩ = some (.slice (some ⟨XB, 0, none⟩) 0 0) ∧ V10.drew.cell? ⟨w.heap.size + 1, 2, none⟩ = some (wErr 2)) := hide ⟨HTD.out.2.1.cell 0 _ rfl, HTD.out.2.1.cell 1 _ rfl, HTD.out.2.1.cell 2 _ rfl, HTD.out.2.1.cell 3 _ rfl, HTD.out.1.2.2.cells.2.2.1⟩
  have hRF : w.heap.size ≠ F := by omega
  have hRC : w.heap.size ≠ w.heap.size + 1 := by omega
  clear HT10 HE7
  go_region_held3 (fun w' => w'.cell? ⟨F, 0, none⟩ = some (.int .i64 0) ∧ w'.cell? ⟨F, 1, none⟩ = some (.int .i64 0) ∧ w'.cell? ⟨F, 2, none⟩ = some (.int .i64 0) ∧ w'.cell? ⟨F, 3, none⟩ = some (.slice (some ⟨XB, 0, none⟩) 0 0) ∧ w'.cell? ⟨w.heap.size + 1, 2, none⟩ = some (wErr 2)) (first | with_reducible assumption | with_reducible exact HK.out | exact ⟨far4 hRF hk9.1, far4 hRF hk9.2.1, far4 hRF hk9.2.2.1, far4 hRF hk9.2.2.2.1, far4 hRC hk9.2.2.2.2⟩)
    ((go_at_call 48; refine CA.out.mono ?_; rintro e w8 ⟨rfl, hb8⟩; have hk9 : w8.cell? ⟨F, 0, none⟩ = some (.int .i64 0) ∧ w8.cell? ⟨F, 1, none⟩ = some (.int .i64 0) ∧ w8.cell? ⟨F, 2, none⟩ = some (.int .i64 0) ∧ w8.cell? ⟨F, 3, none⟩ = some (.slice (some ⟨XB, 0, none⟩) 0 0) ∧ w8.cell? ⟨w.heap.size + 1, 2, none⟩ = some (wErr 2) := ⟨(HTD.out.next hb8).2.1.cell 0 _ rfl, (HTD.out.next hb8).2.1.cell 1 _ rfl, (HTD.out.next hb8).2.1.cell 2 _ rfl, (HTD.out.next hb8).2.1.cell 3 _ rfl, (HTD.out.next hb8).1.2.2.cells.2.2.1⟩; have d0 := (HTD.out.next hb8).1.2.1.cell 0 _ rfl; have d1 := (HTD.out.next hb8).1.2.1.cell 1 _ rfl; have d2 := (HTD.out.next hb8).1.2.1.cell 2 _ rfl; have d3 := (HTD.out.next hb8).1.2.1.cell 3 _ rfl; have fz := (HTD.out.next hb8).1.2.1.frozen))
  all_goals
    have HT9 := hide (HTD.out.next hb8)
    clear hb8 HTD CA HK hk9
    go_wp2_with fail
    exact bodyPost_ret (v := .tuple #[.agg #[.int .i64 0, .int .i64 0, .int .i64 0, .slice none 0 0], .int .i64 2]) (by simp [results, Tryz.results11, go_sem, d0, d1, d2, d3]) rfl ⟨rfl, ((((HT9.out.1.1.setCell (p := ⟨w.heap.size, 0, none⟩) (Nat.le_refl _) _).setCell (p := ⟨w.heap.size, 1, none⟩) (Nat.le_refl _) _).setCell (p := ⟨w.heap.size, 2, none⟩) (Nat.le_refl _) _).setCell (p := ⟨w.heap.size, 3, none⟩) (Nat.le_refl _) _)⟩
set_option maxHeartbeats 8000000 in
theorem implDecI_long (a : Option Addr) (n cap : Nat) (zs : List Int) (w : World) (hn : zs.length = n) (ha : Arr w a zs) (hm : n ≤ 1048576) (he : ErrT w) (h : 65008 < n) :
    Calls Tryz.prog 11 #[.slice a n cap] w fun e w' => e = .returned (.tuple #[.agg #[.int .i64 0, .int .i64 0, .int .i64 0, .slice none 0 0], .int .i64 7]) ∧ Below w.heap.size w w' := by
  have HS0 := hide (DS0.start w #[.int .i64 0, .int .i64 0, .int .i64 0, .slice none 0 0] 34 (.slice a n cap))
  have HA := hide ha
  have HN := hide hn
  have HE := hide he
  clear he
  have hd1 : decide ((8 : Int) ≤ (n : Int)) = true := decide_eq_true (by omega)
  have hd2 : decide ((n : Int) ≤ 65008) = false := decide_eq_false (by omega)
  clear ha hn
  go_enter Tryz.func11, Tryz.ntmps11
  go_wp2_with fail
  generalize hW : (w.alloc (.cells #[.int .i64 0, .int .i64 0, .int .i64 0, .slice none 0 0] 34)).alloc (.cells #[.slice a n cap, .int .i64 0, .nilIface] 65) = W0 at *
  clear hW
  refine (demand_yes (w.heap.size + 1) 0 (.slice a n cap) _ _ HS0.out.2.2).mono ?_
  rintro e w' ⟨rfl, hw⟩
  rw [hw]
  clear hw
  go_wp2_with fail
  refine (demand_no (w.heap.size + 1) 0 (.slice a n cap) _ _ HS0.out.2.2).mono ?_
  rintro e W1 ⟨rfl, hc, hg⟩
  have HS1 := hide (HS0.out.moved hg hc)
  clear hc hg HS0
  go_wp2_with fail
  have hk := checksum_walk a n cap zs W1 HN.out (HA.out.below HS1.out.1 (Nat.le_refl _)) hm
  have CK : Hid (Calls Tryz.prog 43 #[.slice a n cap] W1 fun e w' => e = .returned (.int .i64 (csum zs)) ∧ Below W1.heap.size W1 w') := hide (hk.mono (by rintro e w' ⟨rfl, hb, _⟩; refine ⟨?_, hb⟩; unfold csum; rw [HN.out]))
  clear hk
  refine CK.out.mono ?_
  rintro e W2 ⟨rfl, hb⟩
  have HS2 := hide (HS1.out.next hb)
  clear CK hb HS1
  go_wp2_with fail
  refine (demand_err (w.heap.size + 1) 0 (.slice a n cap) 7 _ _ _ HS2.out.2.2).mono ?_
  rintro e w' ⟨rfl, hw⟩
  rw [hw]
  clear hw
  have HT0 := hide (DS1.start HS2.out #[.int .i64 0, .int .i64 0, .int .i64 0, .slice none 0 0] 34)
  have hF : w.heap.size + 1 < W2.heap.size := HS2.out.2.2.lt
  clear HS2
  go_wp2_with fail
  generalize hV : W2.alloc (.cells #[.int .i64 0, .int .i64 0, .int .i64 0, .slice none 0 0] 34) = V0 at *
  clear hV
  generalize W2.heap.size = F at *
  refine (take_err (w.heap.size + 1) 0 n cap _ 7 1 _ HT0.out.1.2.2 (by omega) (by omega) (by omega) (by omega)).mono ?_
  rintro e w' ⟨rfl, mm, rfl⟩
  have HT1 : Hid (DS1 w (V0.drewN mm) #[.int .i64 0, .int .i64 0, .int .i64 0, .slice none 0 0] 34 (.slice a n cap) (0) (wErr 7) F #[.int .i64 0, .int .i64 0, .int .i64 0, .slice none 0 0] 34) := hide (HT0.out.drewN mm)
  generalize V0.drewN mm = V1 at *
  clear HT0
  have k0 := HT1.out.2.1.cell 0 _ rfl
  have fz := HT1.out.2.1.frozen
  have HT2 : Hid (DS1 w (V1.setCell ⟨F, 0, none⟩ (.int .i64 0)) #[.int .i64 0, .int .i64 0, .int .i64 0, .slice none 0 0] 34 (.slice a n cap) (0) (wErr 7) F #[.int .i64 0, .int .i64 0, .int .i64 0, .slice none 0 0] 34) := hide (HT1.out.set 0 (.int .i64 0))
  go_wp2_with fail
  generalize V1.setCell ⟨F, 0, none⟩ (.int .i64 0) = V2 at *
  clear k0 fz HT1
  refine (take_err (w.heap.size + 1) 0 n cap _ 7 1 _ HT2.out.1.2.2 (by omega) (by omega) (by omega) (by omega)).mono ?_
  rintro e w' ⟨rfl, mm, rfl⟩
  have HT3 : Hid (DS1 w (V2.drewN mm) #[.int .i64 0, .int .i64 0, .int .i64 0, .slice none 0 0] 34 (.slice a n cap) (0) (wErr 7) F #[.int .i64 0, .int .i64 0, .int .i64 0, .slice none 0 0] 34) := hide (HT2.out.drewN mm)
  generalize V2.drewN mm = V3 at *
  clear HT2
  have k0 := HT3.out.2.1.cell 1 _ rfl
  have fz := HT3.out.2.1.frozen
  have HT4 : Hid (DS1 w (V3.setCell ⟨F, 1, none⟩ (.int .i64 0)) #[.int .i64 0, .int .i64 0, .int .i64 0, .slice none 0 0] 34 (.slice a n cap) (0) (wErr 7) F #[.int .i64 0, .int .i64 0, .int .i64 0, .slice none 0 0] 34) := hide (HT3.out.set 1 (.int .i64 0))
  go_wp2_with fail
  generalize V3.setCell ⟨F, 1, none⟩ (.int .i64 0) = V4 at *
  clear k0 fz HT3
  refine (pass_err (w.heap.size + 1) 0 n cap _ 7 2 _ HT4.out.1.2.2 (by omega) (by omega) (by omega) (by omega)).mono ?_
  rintro e w' ⟨rfl, mm, rfl⟩
  have HT5 : Hid (DS1 w (V4.drewN mm) #[.int .i64 0, .int .i64 0, .int .i64 0, .slice none 0 0] 34 (.slice a n cap) (0) (wErr 7) F #[.int .i64 0, .int .i64 0, .int .i64 0, .slice none 0 0] 34) := hide (HT4.out.drewN mm)
  generalize V4.drewN mm = V5 at *
  clear HT4
  go_wp2_with fail
  refine (take_err (w.heap.size + 1) 0 n cap _ 7 4 _ HT5.out.1.2.2 (by omega) (by omega) (by omega) (by omega)).mono ?_
  rintro e w' ⟨rfl, mm, rfl⟩
  have HT6 : Hid (DS1 w (V5.drewN mm) #[.int .i64 0, .int .i64 0, .int .i64 0, .slice none 0 0] 34 (.slice a n cap) (0) (wErr 7) F #[.int .i64 0, .int .i64 0, .int .i64 0, .slice none 0 0] 34) := hide (HT5.out.drewN mm)
  generalize V5.drewN mm = V6 at *
  clear HT5
  have k0 := HT6.out.2.1.cell 2 _ rfl
  have fz := HT6.out.2.1.frozen
  have HT7 : Hid (DS1 w (V6.setCell ⟨F, 2, none⟩ (.int .i64 0)) #[.int .i64 0, .int .i64 0, .int .i64 0, .slice none 0 0] 34 (.slice a n cap) (0) (wErr 7) F #[.int .i64 0, .int .i64 0, .int .i64 0, .slice none 0 0] 34) := hide (HT6.out.set 2 (.int .i64 0))
  go_wp2_with fail
  generalize V6.setCell ⟨F, 2, none⟩ (.int .i64 0) = V7 at *
  clear k0 fz HT6
  refine (left_walk (w.heap.size + 1) 0 n cap _ _ _ HT7.out.1.2.2 (by omega) (by omega)).mono ?_
  rintro e w' ⟨rfl, mm, rfl⟩
  have HT8 : Hid (DS1 w (V7.drewN mm) #[.int .i64 0, .int .i64 0, .int .i64 0, .slice none 0 0] 34 (.slice a n cap) (0) (wErr 7) F #[.int .i64 0, .int .i64 0, .int .i64 0, .slice none 0 0] 34) := hide (HT7.out.drewN mm)
  generalize V7.drewN mm = V8 at *
  clear HT7
  go_wp2_with fail
  have C := hide (takeBytes_err (w.heap.size + 1) 0 n cap _ 7 (n : Int) V8 HT8.out.1.2.2 (by omega) (by omega) (by omega) (by omega))
  refine C.out.mono ?_
  rintro e V9 ⟨rfl, hb⟩
  have HT9 := hide (HT8.out.next hb)
  clear C hb HT8
  generalize V8.heap.size = XB at *
  have k0 := HT9.out.2.1.cell 3 _ rfl
  have fz := HT9.out.2.1.frozen
  have HT10 : Hid (DS1 w (V9.setCell ⟨F, 3, none⟩ (.slice (some ⟨XB, 0, none⟩) 0 0)) #[.int .i64 0, .int .i64 0, .int .i64 0, .slice none 0 0] 34 (.slice a n cap) (0) (wErr 7) F #[.int .i64 0, .int .i64 0, .int .i64 0, .slice (some ⟨XB, 0, none⟩) 0 0] 34) := hide (HT9.out.set 3 (.slice (some ⟨XB, 0, none⟩) 0 0))
  go_wp2_with fail
  generalize V9.setCell ⟨F, 3, none⟩ (.slice (some ⟨XB, 0, none⟩) 0 0) = V10 at *
  clear k0 fz HT9
  have HTD := hide (HT10.out.drew)
  have HE7 := hide (HE.out.below HTD.out.1.1 (Nat.le_refl _))
  clear HE
  have CA := hide (ansIcmp_err (0) (0) (0) (some ⟨XB, 0, none⟩) 0 0 7 (by decide) V10.drew HE7.out)
  have HK : Hid (V10.drew.cell? ⟨F, 0, none⟩ = some (.int .i64 0) ∧ V10.drew.cell? ⟨F, 1, none⟩ = some (.int .i64 0) ∧ V10.drew.cell? ⟨F, 2, none⟩ = some (.int .i64 0) ∧ V10.drew.cell? ⟨F, 3, none⟩ = some (.slice (some ⟨XB, 0, none⟩) 0 0) ∧ V10.drew.cell? ⟨w.heap.size + 1, 2, none⟩ = some (wErr 7)) := hide ⟨HTD.out.2.1.cell 0 _ rfl, HTD.out.2.1.cell 1 _ rfl, HTD.out.2.1.cell 2 _ rfl, HTD.out.2.1.cell 3 _ rfl, HTD.out.1.2.2.cells.2.2.1⟩
  have hRF : w.heap.size ≠ F := by omega
  have hRC : w.heap.size ≠ w.heap.size + 1 := by omega
  clear HT10 HE7
  go_region_held3 (fun w' => w'.cell? ⟨F, 0, none⟩ = some (.int .i64 0) ∧ w'.cell? ⟨F, 1, none⟩ = some (.int .i64 0) ∧ w'.cell? ⟨F, 2, none⟩ = some (.int .i64 0) ∧ w'.cell? ⟨F, 3, none⟩ = some (.slice (some ⟨XB, 0, none⟩) 0 0) ∧ w'.cell? ⟨w.heap.size + 1, 2, none⟩ = some (wErr 7)) (first | with_reducible assumption | with_reducible exact HK.out | exact ⟨far4 hRF hk9.1, far4 hRF hk9.2.1, far4 hRF hk9.2.2.1, far4 hRF hk9.2.2.2.1, far4 hRC hk9.2.2.2.2⟩)
    ((go_at_call 48; refine CA.out.mono ?_; rintro e w8 ⟨rfl, hb8⟩; have hk9 : w8.cell? ⟨F, 0, none⟩ = some (.int .i64 0) ∧ w8.cell? ⟨F, 1, none⟩ = some (.int .i64 0) ∧ w8.cell? ⟨F, 2, none⟩ = some (.int .i64 0) ∧ w8.cell? ⟨F, 3, none⟩ = some (.slice (some ⟨XB, 0, none⟩) 0 0) ∧ w8.cell? ⟨w.heap.size + 1, 2, none⟩ = some (wErr 7) := ⟨(HTD.out.next hb8).2.1.cell 0 _ rfl, (HTD.out.next hb8).2.1.cell 1 _ rfl, (HTD.out.next hb8).2.1.cell 2 _ rfl, (HTD.out.next hb8).2.1.cell 3 _ rfl, (HTD.out.next hb8).1.2.2.cells.2.2.1⟩; have d0 := (HTD.out.next hb8).1.2.1.cell 0 _ rfl; have d1 := (HTD.out.next hb8).1.2.1.cell 1 _ rfl; have d2 := (HTD.out.next hb8).1.2.1.cell 2 _ rfl; have d3 := (HTD.out.next hb8).1.2.1.cell 3 _ rfl; have fz := (HTD.out.next hb8).1.2.1.frozen))
  all_goals
    have HT9 := hide (HTD.out.next hb8)
    clear hb8 HTD CA HK hk9
    go_wp2_with fail
    exact bodyPost_ret (v := .tuple #[.agg #[.int .i64 0, .int .i64 0, .int .i64 0, .slice none 0 0], .int .i64 7]) (by simp [results, Tryz.results11, go_sem, d0, d1, d2, d3]) rfl ⟨rfl, ((((HT9.out.1.1.setCell (p := ⟨w.heap.size, 0, none⟩) (Nat.le_refl _) _).setCell (p := ⟨w.heap.size, 1, none⟩) (Nat.le_refl _) _).setCell (p := ⟨w.heap.size, 2, none⟩) (Nat.le_refl _) _).setCell (p := ⟨w.heap.size, 3, none⟩) (Nat.le_refl _) _)⟩
set_option maxHeartbeats 8000000 in
theorem implDecI_sum (a : Option Addr) (n cap : Nat) (zs : List Int) (w : World) (hn : zs.length = n) (ha : Arr w a zs) (hm : n ≤ 1048576) (he : ErrT w) (h0 : 8 ≤ n) (h1 : n ≤ 65008) (hs : ¬ csum zs = 0) :
    Calls Tryz.prog 11 #[.slice a n cap] w fun e w' => e = .returned (.tuple #[.agg #[.int .i64 0, .int .i64 0, .int .i64 0, .slice none 0 0], .int .i64 3]) ∧ Below w.heap.size w w' := by
  have HS0 := hide (DS0.start w #[.int .i64 0, .int .i64 0, .int .i64 0, .slice none 0 0] 34 (.slice a n cap))
  have HA := hide ha
  have HN := hide hn
  have HE := hide he
  clear he
  have hd1 : decide ((8 : Int) ≤ (n : Int)) = true := decide_eq_true (by omega)
  have hd2 : decide ((n : Int) ≤ 65008) = true := decide_eq_true (by omega)
  have hd3 : (csum zs == 0) = false := by simpa using hs
  clear ha hn
  go_enter Tryz.func11, Tryz.ntmps11
  go_wp2_with fail
  generalize hW : (w.alloc (.cells #[.int .i64 0, .int .i64 0, .int .i64 0, .slice none 0 0] 34)).alloc (.cells #[.slice a n cap, .int .i64 0, .nilIface] 65) = W0 at *
  clear hW
  refine (demand_yes (w.heap.size + 1) 0 (.slice a n cap) _ _ HS0.out.2.2).mono ?_
  rintro e w' ⟨rfl, hw⟩
  rw [hw]
  clear hw
  go_wp2_with fail
  refine (demand_yes (w.heap.size + 1) 0 (.slice a n cap) _ _ HS0.out.2.2).mono ?_
  rintro e w' ⟨rfl, hw⟩
  rw [hw]
  clear hw
  go_wp2_with fail
  have hk := checksum_walk a n cap zs W0 HN.out (HA.out.below HS0.out.1 (Nat.le_refl _)) hm
  have CK : Hid (Calls Tryz.prog 43 #[.slice a n cap] W0 fun e w' => e = .returned (.int .i64 (csum zs)) ∧ Below W0.heap.size W0 w') := hide (hk.mono (by rintro e w' ⟨rfl, hb, _⟩; refine ⟨?_, hb⟩; unfold csum; rw [HN.out]))
  clear hk
  refine CK.out.mono ?_
  rintro e W1 ⟨rfl, hb⟩
  have HS1 := hide (HS0.out.next hb)
  clear CK hb HS0
  go_wp2_with fail
  refine (demand_no (w.heap.size + 1) 0 (.slice a n cap) _ _ HS1.out.2.2).mono ?_
  rintro e W2 ⟨rfl, hc, hg⟩
  have HS2 := hide (HS1.out.moved hg hc)
  clear hc hg HS1
  have HT0 := hide (DS1.start HS2.out #[.int .i64 0, .int .i64 0, .int .i64 0, .slice none 0 0] 34)
  have hF : w.heap.size + 1 < W2.heap.size := HS2.out.2.2.lt
  clear HS2
  go_wp2_with fail
  generalize hV : W2.alloc (.cells #[.int .i64 0, .int .i64 0, .int .i64 0, .slice none 0 0] 34) = V0 at *
  clear hV
  generalize W2.heap.size = F at *
  refine (take_err (w.heap.size + 1) 0 n cap _ 3 1 _ HT0.out.1.2.2 (by omega) (by omega) (by omega) (by omega)).mono ?_
  rintro e w' ⟨rfl, mm, rfl⟩
  have HT1 : Hid (DS1 w (V0.drewN mm) #[.int .i64 0, .int .i64 0, .int .i64 0, .slice none 0 0] 34 (.slice a n cap) (0) (wErr 3) F #[.int .i64 0, .int .i64 0, .int .i64 0, .slice none 0 0] 34) := hide (HT0.out.drewN mm)
  generalize V0.drewN mm = V1 at *
  clear HT0
  have k0 := HT1.out.2.1.cell 0 _ rfl
  have fz := HT1.out.2.1.frozen
  have HT2 : Hid (DS1 w (V1.setCell ⟨F, 0, none⟩ (.int .i64 0)) #[.int .i64 0, .int .i64 0, .int .i64 0, .slice none 0 0] 34 (.slice a n cap) (0) (wErr 3) F #[.int .i64 0, .int .i64 0, .int .i64 0, .slice none 0 0] 34) := hide (HT1.out.set 0 (.int .i64 0))
  go_wp2_with fail
  generalize V1.setCell ⟨F, 0, none⟩ (.int .i64 0) = V2 at *
  clear k0 fz HT1
  refine (take_err (w.heap.size + 1) 0 n cap _ 3 1 _ HT2.out.1.2.2 (by omega) (by omega) (by omega) (by omega)).mono ?_
  rintro e w' ⟨rfl, mm, rfl⟩
  have HT3 : Hid (DS1 w (V2.drewN mm) #[.int .i64 0, .int .i64 0, .int .i64 0, .slice none 0 0] 34 (.slice a n cap) (0) (wErr 3) F #[.int .i64 0, .int .i64 0, .int .i64 0, .slice none 0 0] 34) := hide (HT2.out.drewN mm)
  generalize V2.drewN mm = V3 at *
  clear HT2
  have k0 := HT3.out.2.1.cell 1 _ rfl
  have fz := HT3.out.2.1.frozen
  have HT4 : Hid (DS1 w (V3.setCell ⟨F, 1, none⟩ (.int .i64 0)) #[.int .i64 0, .int .i64 0, .int .i64 0, .slice none 0 0] 34 (.slice a n cap) (0) (wErr 3) F #[.int .i64 0, .int .i64 0, .int .i64 0, .slice none 0 0] 34) := hide (HT3.out.set 1 (.int .i64 0))
  go_wp2_with fail
  generalize V3.setCell ⟨F, 1, none⟩ (.int .i64 0) = V4 at *
  clear k0 fz HT3
  refine (pass_err (w.heap.size + 1) 0 n cap _ 3 2 _ HT4.out.1.2.2 (by omega) (by omega) (by omega) (by omega)).mono ?_
  rintro e w' ⟨rfl, mm, rfl⟩
  have HT5 : Hid (DS1 w (V4.drewN mm) #[.int .i64 0, .int .i64 0, .int .i64 0, .slice none 0 0] 34 (.slice a n cap) (0) (wErr 3) F #[.int .i64 0, .int .i64 0, .int .i64 0, .slice none 0 0] 34) := hide (HT4.out.drewN mm)
  generalize V4.drewN mm = V5 at *
  clear HT4
  go_wp2_with fail
  refine (take_err (w.heap.size + 1) 0 n cap _ 3 4 _ HT5.out.1.2.2 (by omega) (by omega) (by omega) (by omega)).mono ?_
  rintro e w' ⟨rfl, mm, rfl⟩
  have HT6 : Hid (DS1 w (V5.drewN mm) #[.int .i64 0, .int .i64 0, .int .i64 0, .slice none 0 0] 34 (.slice a n cap) (0) (wErr 3) F #[.int .i64 0, .int .i64 0, .int .i64 0, .slice none 0 0] 34) := hide (HT5.out.drewN mm)
  generalize V5.drewN mm = V6 at *
  clear HT5
  have k0 := HT6.out.2.1.cell 2 _ rfl
  have fz := HT6.out.2.1.frozen
  have HT7 : Hid (DS1 w (V6.setCell ⟨F, 2, none⟩ (.int .i64 0)) #[.int .i64 0, .int .i64 0, .int .i64 0, .slice none 0 0] 34 (.slice a n cap) (0) (wErr 3) F #[.int .i64 0, .int .i64 0, .int .i64 0, .slice none 0 0] 34) := hide (HT6.out.set 2 (.int .i64 0))
  go_wp2_with fail
  generalize V6.setCell ⟨F, 2, none⟩ (.int .i64 0) = V7 at *
  clear k0 fz HT6
  refine (left_walk (w.heap.size + 1) 0 n cap _ _ _ HT7.out.1.2.2 (by omega) (by omega)).mono ?_
  rintro e w' ⟨rfl, mm, rfl⟩
  have HT8 : Hid (DS1 w (V7.drewN mm) #[.int .i64 0, .int .i64 0, .int .i64 0, .slice none 0 0] 34 (.slice a n cap) (0) (wErr 3) F #[.int .i64 0, .int .i64 0, .int .i64 0, .slice none 0 0] 34) := hide (HT7.out.drewN mm)
  generalize V7.drewN mm = V8 at *
  clear HT7
  go_wp2_with fail
  have C := hide (takeBytes_err (w.heap.size + 1) 0 n cap _ 3 (n : Int) V8 HT8.out.1.2.2 (by omega) (by omega) (by omega) (by omega))
  refine C.out.mono ?_
  rintro e V9 ⟨rfl, hb⟩
  have HT9 := hide (HT8.out.next hb)
  clear C hb HT8
  generalize V8.heap.size = XB at *
  have k0 := HT9.out.2.1.cell 3 _ rfl
  have fz := HT9.out.2.1.frozen
  have HT10 : Hid (DS1 w (V9.setCell ⟨F, 3, none⟩ (.slice (some ⟨XB, 0, none⟩) 0 0)) #[.int .i64 0, .int .i64 0, .int .i64 0, .slice none 0 0] 34 (.slice a n cap) (0) (wErr 3) F #[.int .i64 0, .int .i64 0, .int .i64 0, .slice (some ⟨XB, 0, none⟩) 0 0] 34) := hide (HT9.out.set 3 (.slice (some ⟨XB, 0, none⟩) 0 0))
  go_wp2_with fail
  generalize V9.setCell ⟨F, 3, none⟩ (.slice (some ⟨XB, 0, none⟩) 0 0) = V10 at *
  clear k0 fz HT9
  have HTD := hide (HT10.out.drew)
  have HE7 := hide (HE.out.below HTD.out.1.1 (Nat.le_refl _))
  clear HE
  have CA := hide (ansIcmp_err (0) (0) (0) (some ⟨XB, 0, none⟩) 0 0 3 (by decide) V10.drew HE7.out)
  have HK : Hid (V10.drew.cell? ⟨F, 0, none⟩ = some (.int .i64 0) ∧ V10.drew.cell? ⟨F, 1, none⟩ = some (.int .i64 0) ∧ V10.drew.cell? ⟨F, 2, none⟩ = some (.int .i64 0) ∧ V10.drew.cell? ⟨F, 3, none⟩ = some (.slice (some ⟨XB, 0, none⟩) 0 0) ∧ V10.drew.cell? ⟨w.heap.size + 1, 2, none⟩ = some (wErr 3)) := hide ⟨HTD.out.2.1.cell 0 _ rfl, HTD.out.2.1.cell 1 _ rfl, HTD.out.2.1.cell 2 _ rfl, HTD.out.2.1.cell 3 _ rfl, HTD.out.1.2.2.cells.2.2.1⟩
  have hRF : w.heap.size ≠ F := by omega
  have hRC : w.heap.size ≠ w.heap.size + 1 := by omega
  clear HT10 HE7
  go_region_held3 (fun w' => w'.cell? ⟨F, 0, none⟩ = some (.int .i64 0) ∧ w'.cell? ⟨F, 1, none⟩ = some (.int .i64 0) ∧ w'.cell? ⟨F, 2, none⟩ = some (.int .i64 0) ∧ w'.cell? ⟨F, 3, none⟩ = some (.slice (some ⟨XB, 0, none⟩) 0 0) ∧ w'.cell? ⟨w.heap.size + 1, 2, none⟩ = some (wErr 3)) (first | with_reducible assumption | with_reducible exact HK.out | exact ⟨far4 hRF hk9.1, far4 hRF hk9.2.1, far4 hRF hk9.2.2.1, far4 hRF hk9.2.2.2.1, far4 hRC hk9.2.2.2.2⟩)
    ((go_at_call 48; refine CA.out.mono ?_; rintro e w8 ⟨rfl, hb8⟩; have hk9 : w8.cell? ⟨F, 0, none⟩ = some (.int .i64 0) ∧ w8.cell? ⟨F, 1, none⟩ = some (.int .i64 0) ∧ w8.cell? ⟨F, 2, none⟩ = some (.int .i64 0) ∧ w8.cell? ⟨F, 3, none⟩ = some (.slice (some ⟨XB, 0, none⟩) 0 0) ∧ w8.cell? ⟨w.heap.size + 1, 2, none⟩ = some (wErr 3) := ⟨(HTD.out.next hb8).2.1.cell 0 _ rfl, (HTD.out.next hb8).2.1.cell 1 _ rfl, (HTD.out.next hb8).2.1.cell 2 _ rfl, (HTD.out.next hb8).2.1.cell 3 _ rfl, (HTD.out.next hb8).1.2.2.cells.2.2.1⟩; have d0 := (HTD.out.next hb8).1.2.1.cell 0 _ rfl; have d1 := (HTD.out.next hb8).1.2.1.cell 1 _ rfl; have d2 := (HTD.out.next hb8).1.2.1.cell 2 _ rfl; have d3 := (HTD.out.next hb8).1.2.1.cell 3 _ rfl; have fz := (HTD.out.next hb8).1.2.1.frozen))
  all_goals
    have HT9 := hide (HTD.out.next hb8)
    clear hb8 HTD CA HK hk9
    go_wp2_with fail
    exact bodyPost_ret (v := .tuple #[.agg #[.int .i64 0, .int .i64 0, .int .i64 0, .slice none 0 0], .int .i64 3]) (by simp [results, Tryz.results11, go_sem, d0, d1, d2, d3]) rfl ⟨rfl, ((((HT9.out.1.1.setCell (p := ⟨w.heap.size, 0, none⟩) (Nat.le_refl _) _).setCell (p := ⟨w.heap.size, 1, none⟩) (Nat.le_refl _) _).setCell (p := ⟨w.heap.size, 2, none⟩) (Nat.le_refl _) _).setCell (p := ⟨w.heap.size, 3, none⟩) (Nat.le_refl _) _)⟩
set_option maxHeartbeats 8000000 in
theorem implDecI_ok (b off n cap : Nat) (zs : List Int) (w : World) (hn : zs.length = n) (ha : Arr w (some ⟨b, off, none⟩) zs) (hm : n ≤ 1048576) (hcap : n ≤ cap) (h0 : 8 ≤ n) (h1 : n ≤ 65008) (hs : csum zs = 0) (y0 : Int) (hy0 : tnum ((zs.drop 0).take 1) = y0) (y1 : Int) (hy1 : tnum ((zs.drop 1).take 1) = y1) (y2 : Int) (hy2 : tnum ((zs.drop 4).take 4) = y2) (L : List Int) (hyL : (zs.drop 8).take (n - 8) = L) :
    Calls Tryz.prog 11 #[.slice (some ⟨b, off, none⟩) n cap] w fun e w' => ∃ v0 : Value, e = .returned (.tuple #[.agg #[.int .i64 y0, .int .i64 y1, .int .i64 y2, v0], .int .i64 0]) ∧ OwnB w' w.heap.size v0 L ∧ Below w.heap.size w w' := by
  have HS0 := hide (DS0.start w #[.int .i64 0, .int .i64 0, .int .i64 0, .slice none 0 0] 34 (.slice (some ⟨b, off, none⟩) n cap))
  have HA := hide ha
  have HN := hide hn
  have HY0 := hide hy0
  have HY1 := hide hy1
  have HY2 := hide hy2
  have HYL := hide hyL
  clear hy0 hy1 hy2 hyL
  obtain ⟨_, _, e0, hbl, _⟩ := ha.2 0 (by omega)
  cases e0
  have hbne : b ≠ w.heap.size + 1 := by omega
  have hd1 : decide ((8 : Int) ≤ (n : Int)) = true := decide_eq_true (by omega)
  have hd2 : decide ((n : Int) ≤ 65008) = true := decide_eq_true (by omega)
  have hd3 : (csum zs == 0) = true := by rw [hs]; rfl
  clear ha hn
  go_enter Tryz.func11, Tryz.ntmps11
  go_wp2_with fail
  generalize hW : (w.alloc (.cells #[.int .i64 0, .int .i64 0, .int .i64 0, .slice none 0 0] 34)).alloc (.cells #[.slice (some ⟨b, off, none⟩) n cap, .int .i64 0, .nilIface] 65) = W0 at *
  clear hW
  refine (demand_yes (w.heap.size + 1) 0 (.slice (some ⟨b, off, none⟩) n cap) _ _ HS0.out.2.2).mono ?_
  rintro e w' ⟨rfl, hw⟩
  rw [hw]
  clear hw
  go_wp2_with fail
  refine (demand_yes (w.heap.size + 1) 0 (.slice (some ⟨b, off, none⟩) n cap) _ _ HS0.out.2.2).mono ?_
  rintro e w' ⟨rfl, hw⟩
  rw [hw]
  clear hw
  go_wp2_with fail
  have hk := checksum_walk (some ⟨b, off, none⟩) n cap zs W0 HN.out (HA.out.below HS0.out.1 (Nat.le_refl _)) hm
  have CK : Hid (Calls Tryz.prog 43 #[.slice (some ⟨b, off, none⟩) n cap] W0 fun e w' => e = .returned (.int .i64 (csum zs)) ∧ Below W0.heap.size W0 w') := hide (hk.mono (by rintro e w' ⟨rfl, hb, _⟩; refine ⟨?_, hb⟩; unfold csum; rw [HN.out]))
  clear hk
  refine CK.out.mono ?_
  rintro e W1 ⟨rfl, hb⟩
  have HS1 := hide (HS0.out.next hb)
  clear CK hb HS0
  go_wp2_with fail
  refine (demand_yes (w.heap.size + 1) 0 (.slice (some ⟨b, off, none⟩) n cap) _ _ HS1.out.2.2).mono ?_
  rintro e w' ⟨rfl, hw⟩
  rw [hw]
  clear hw
  have HT0 := hide (DS1.start HS1.out #[.int .i64 0, .int .i64 0, .int .i64 0, .slice none 0 0] 34)
  have hF : w.heap.size + 1 < W1.heap.size := HS1.out.2.2.lt
  clear HS1
  go_wp2_with fail
  generalize hV : W1.alloc (.cells #[.int .i64 0, .int .i64 0, .int .i64 0, .slice none 0 0] 34) = V0 at *
  clear hV
  generalize W1.heap.size = F at *
  have ct := tk1 (w.heap.size + 1) (0) n cap b off zs V0 HT0.out.1.2.2 hm (by omega) hcap HN.out (HA.out.below HT0.out.1.1 (Nat.le_refl _)) hbne
  rw [HY0.out] at ct
  have C := hide ct
  clear ct
  refine C.out.mono ?_
  rintro e V1 ⟨rfl, hc, hg⟩
  have HT1 : Hid (DS1 w V1 #[.int .i64 0, .int .i64 0, .int .i64 0, .slice none 0 0] 34 (.slice (some ⟨b, off, none⟩) n cap) (1) .nilIface F #[.int .i64 0, .int .i64 0, .int .i64 0, .slice none 0 0] 34) := hide (HT0.out.moved hg hc)
  clear C hc hg HT0
  have k0 := HT1.out.2.1.cell 0 _ rfl
  have fz := HT1.out.2.1.frozen
  have HT2 : Hid (DS1 w (V1.setCell ⟨F, 0, none⟩ (.int .i64 y0)) #[.int .i64 0, .int .i64 0, .int .i64 0, .slice none 0 0] 34 (.slice (some ⟨b, off, none⟩) n cap) (1) .nilIface F #[.int .i64 y0, .int .i64 0, .int .i64 0, .slice none 0 0] 34) := hide (HT1.out.set 0 (.int .i64 y0))
  go_wp2_with fail
  generalize V1.setCell ⟨F, 0, none⟩ (.int .i64 y0) = V2 at *
  clear k0 fz HT1
  have ct := tk1 (w.heap.size + 1) (1) n cap b off zs V2 HT2.out.1.2.2 hm (by omega) hcap HN.out (HA.out.below HT2.out.1.1 (Nat.le_refl _)) hbne
  rw [HY1.out] at ct
  have C := hide ct
  clear ct
  refine C.out.mono ?_
  rintro e V3 ⟨rfl, hc, hg⟩
  have HT3 : Hid (DS1 w V3 #[.int .i64 0, .int .i64 0, .int .i64 0, .slice none 0 0] 34 (.slice (some ⟨b, off, none⟩) n cap) (2) .nilIface F #[.int .i64 y0, .int .i64 0, .int .i64 0, .slice none 0 0] 34) := hide (HT2.out.moved hg hc)
  clear C hc hg HT2
  have k0 := HT3.out.2.1.cell 1 _ rfl
  have fz := HT3.out.2.1.frozen
  have HT4 : Hid (DS1 w (V3.setCell ⟨F, 1, none⟩ (.int .i64 y1)) #[.int .i64 0, .int .i64 0, .int .i64 0, .slice none 0 0] 34 (.slice (some ⟨b, off, none⟩) n cap) (2) .nilIface F #[.int .i64 y0, .int .i64 y1, .int .i64 0, .slice none 0 0] 34) := hide (HT3.out.set 1 (.int .i64 y1))
  go_wp2_with fail
  generalize V3.setCell ⟨F, 1, none⟩ (.int .i64 y1) = V4 at *
  clear k0 fz HT3
  have C := hide (ps2 (w.heap.size + 1) (2) n cap b off V4 HT4.out.1.2.2 hm (by omega) hcap)
  refine C.out.mono ?_
  rintro e V5 ⟨rfl, hc, hg⟩
  have HT5 : Hid (DS1 w V5 #[.int .i64 0, .int .i64 0, .int .i64 0, .slice none 0 0] 34 (.slice (some ⟨b, off, none⟩) n cap) (4) .nilIface F #[.int .i64 y0, .int .i64 y1, .int .i64 0, .slice none 0 0] 34) := hide (HT4.out.moved hg hc)
  clear C hc hg HT4
  go_wp2_with fail
  have ct := tk4 (w.heap.size + 1) (4) n cap b off zs V5 HT5.out.1.2.2 hm (by omega) hcap HN.out (HA.out.below HT5.out.1.1 (Nat.le_refl _)) hbne
  rw [HY2.out] at ct
  have C := hide ct
  clear ct
  refine C.out.mono ?_
  rintro e V6 ⟨rfl, hc, hg⟩
  have HT6 : Hid (DS1 w V6 #[.int .i64 0, .int .i64 0, .int .i64 0, .slice none 0 0] 34 (.slice (some ⟨b, off, none⟩) n cap) (8) .nilIface F #[.int .i64 y0, .int .i64 y1, .int .i64 0, .slice none 0 0] 34) := hide (HT5.out.moved hg hc)
  clear C hc hg HT5
  have k0 := HT6.out.2.1.cell 2 _ rfl
  have fz := HT6.out.2.1.frozen
  have HT7 : Hid (DS1 w (V6.setCell ⟨F, 2, none⟩ (.int .i64 y2)) #[.int .i64 0, .int .i64 0, .int .i64 0, .slice none 0 0] 34 (.slice (some ⟨b, off, none⟩) n cap) (8) .nilIface F #[.int .i64 y0, .int .i64 y1, .int .i64 y2, .slice none 0 0] 34) := hide (HT6.out.set 2 (.int .i64 y2))
  go_wp2_with fail
  generalize V6.setCell ⟨F, 2, none⟩ (.int .i64 y2) = V7 at *
  clear k0 fz HT6
  refine (left_walk (w.heap.size + 1) 8 n cap _ _ _ HT7.out.1.2.2 (by omega) (by omega)).mono ?_
  rintro e w' ⟨rfl, mm, rfl⟩
  have HT8 : Hid (DS1 w (V7.drewN mm) #[.int .i64 0, .int .i64 0, .int .i64 0, .slice none 0 0] 34 (.slice (some ⟨b, off, none⟩) n cap) (8) .nilIface F #[.int .i64 y0, .int .i64 y1, .int .i64 y2, .slice none 0 0] 34) := hide (HT7.out.drewN mm)
  generalize V7.drewN mm = V8 at *
  clear HT7
  go_wp2_with fail
  have hFl := HT8.out.2.1.lt
  have C := hide (takeBytes_any (w.heap.size + 1) (8) n cap b off (n - 8) zs V8 HT8.out.1.2.2 hm (by omega) hcap HN.out (HA.out.below HT8.out.1.1 (Nat.le_refl _)) hbne)
  rw [show ((n : Int) - 8) = ((n - 8 : Nat) : Int) by omega]
  refine C.out.mono ?_
  rintro e V9 ⟨vb, rfl, hO, hc, hg⟩
  have HT9 : Hid (DS1 w V9 #[.int .i64 0, .int .i64 0, .int .i64 0, .slice none 0 0] 34 (.slice (some ⟨b, off, none⟩) n cap) (8 + (n - 8)) .nilIface F #[.int .i64 y0, .int .i64 y1, .int .i64 y2, .slice none 0 0] 34) := hide (HT8.out.moved hg hc)
  rw [HYL.out] at hO
  have HO := hide (hO.mono (show F + 1 ≤ V8.heap.size from hFl))
  obtain ⟨ab, lb, cb, eb⟩ : ∃ (x : Option Addr) (y z : Nat), vb = .slice x y z := by obtain ⟨x, z, e, _⟩ := own_slice HO.out; exact ⟨x, _, z, e⟩
  subst eb
  clear C hc hg hO hFl HT8
  have k0 := HT9.out.2.1.cell 3 _ rfl
  have fz := HT9.out.2.1.frozen
  have HT10 : Hid (DS1 w (V9.setCell ⟨F, 3, none⟩ (.slice ab lb cb)) #[.int .i64 0, .int .i64 0, .int .i64 0, .slice none 0 0] 34 (.slice (some ⟨b, off, none⟩) n cap) (8 + (n - 8)) .nilIface F #[.int .i64 y0, .int .i64 y1, .int .i64 y2, .slice ab lb cb] 34) := hide (HT9.out.set 3 (.slice ab lb cb))
  have HO2 := hide ((HO.out.setBelow (a := ⟨F, 3, none⟩) (Nat.lt_succ_self _) (.slice ab lb cb)).mono (show w.heap.size + 1 ≤ F + 1 by omega))
  go_wp2_with fail
  generalize V9.setCell ⟨F, 3, none⟩ (.slice ab lb cb) = V10 at *
  clear k0 fz HT9 HO
  have HTD := hide (HT10.out.drew)
  have HOD := hide (HO2.out.drew)
  have CA := hide (ansIcmp_nil (y0) (y1) (y2) ab lb cb V10.drew)
  have HK : Hid (V10.drew.cell? ⟨F, 0, none⟩ = some (.int .i64 y0) ∧ V10.drew.cell? ⟨F, 1, none⟩ = some (.int .i64 y1) ∧ V10.drew.cell? ⟨F, 2, none⟩ = some (.int .i64 y2) ∧ V10.drew.cell? ⟨F, 3, none⟩ = some (.slice ab lb cb) ∧ V10.drew.cell? ⟨w.heap.size + 1, 2, none⟩ = some .nilIface) := hide ⟨HTD.out.2.1.cell 0 _ rfl, HTD.out.2.1.cell 1 _ rfl, HTD.out.2.1.cell 2 _ rfl, HTD.out.2.1.cell 3 _ rfl, HTD.out.1.2.2.cells.2.2.1⟩
  have hRF : w.heap.size ≠ F := by omega
  have hRC : w.heap.size ≠ w.heap.size + 1 := by omega
  clear HT10 HO2
  go_region_held3 (fun w' => w'.cell? ⟨F, 0, none⟩ = some (.int .i64 y0) ∧ w'.cell? ⟨F, 1, none⟩ = some (.int .i64 y1) ∧ w'.cell? ⟨F, 2, none⟩ = some (.int .i64 y2) ∧ w'.cell? ⟨F, 3, none⟩ = some (.slice ab lb cb) ∧ w'.cell? ⟨w.heap.size + 1, 2, none⟩ = some .nilIface) (first | with_reducible assumption | with_reducible exact HK.out | exact ⟨far4 hRF hk9.1, far4 hRF hk9.2.1, far4 hRF hk9.2.2.1, far4 hRF hk9.2.2.2.1, far4 hRC hk9.2.2.2.2⟩)
    ((go_at_call 48; refine CA.out.mono ?_; rintro e w8 ⟨rfl, hb8⟩; have hk9 : w8.cell? ⟨F, 0, none⟩ = some (.int .i64 y0) ∧ w8.cell? ⟨F, 1, none⟩ = some (.int .i64 y1) ∧ w8.cell? ⟨F, 2, none⟩ = some (.int .i64 y2) ∧ w8.cell? ⟨F, 3, none⟩ = some (.slice ab lb cb) ∧ w8.cell? ⟨w.heap.size + 1, 2, none⟩ = some .nilIface := ⟨(HTD.out.next hb8).2.1.cell 0 _ rfl, (HTD.out.next hb8).2.1.cell 1 _ rfl, (HTD.out.next hb8).2.1.cell 2 _ rfl, (HTD.out.next hb8).2.1.cell 3 _ rfl, (HTD.out.next hb8).1.2.2.cells.2.2.1⟩; have d0 := (HTD.out.next hb8).1.2.1.cell 0 _ rfl; have d1 := (HTD.out.next hb8).1.2.1.cell 1 _ rfl; have d2 := (HTD.out.next hb8).1.2.1.cell 2 _ rfl; have d3 := (HTD.out.next hb8).1.2.1.cell 3 _ rfl; have fz := (HTD.out.next hb8).1.2.1.frozen))
  all_goals
    have HT9 := hide (HTD.out.next hb8)
    have HO9 := hide (HOD.out.next hb8)
    clear hb8 HTD CA HK hk9
    go_wp2_with fail
    exact bodyPost_ret (v := .tuple #[.agg #[.int .i64 y0, .int .i64 y1, .int .i64 y2, .slice ab lb cb], .int .i64 0]) (by simp [results, Tryz.results11, go_sem, d0, d1, d2, d3]) rfl ⟨_, rfl, ((((HO9.out.setBelow (a := ⟨w.heap.size, 0, none⟩) (Nat.lt_succ_self _) _).setBelow (a := ⟨w.heap.size, 1, none⟩) (Nat.lt_succ_self _) _).setBelow (a := ⟨w.heap.size, 2, none⟩) (Nat.lt_succ_self _) _).setBelow (a := ⟨w.heap.size, 3, none⟩) (Nat.lt_succ_self _) _).mono (Nat.le_succ _), ((((HT9.out.1.1.setCell (p := ⟨w.heap.size, 0, none⟩) (Nat.le_refl _) _).setCell (p := ⟨w.heap.size, 1, none⟩) (Nat.le_refl _) _).setCell (p := ⟨w.heap.size, 2, none⟩) (Nat.le_refl _) _).setCell (p := ⟨w.heap.size, 3, none⟩) (Nat.le_refl _) _)⟩
set_option maxRecDepth 100000
/-- What DecodeIcmp tells of bytes. -/
def idC (zs : List Int) : Int := if zs.length < 8 then 2 else if 65008 < zs.length then 7 else if csum zs = 0 then 0 else 3
def idT (zs : List Int) : Int := if idC zs = 0 then zs.getD 0 0 else 0
def idK (zs : List Int) : Int := if idC zs = 0 then zs.getD 1 0 else 0
def idR (zs : List Int) : Int := if idC zs = 0 then tnum ((zs.drop 4).take 4) else 0
def idB (zs : List Int) : List Int := if idC zs = 0 then zs.drop 8 else []
theorem id_no {zs : List Int} (h : ¬ idC zs = 0) : idT zs = 0 ∧ idK zs = 0 ∧ idR zs = 0 ∧ idB zs = [] := by
  unfold idT idK idR idB; rw [if_neg h, if_neg h, if_neg h, if_neg h]; exact ⟨rfl, rfl, rfl, rfl⟩
theorem id_yes {zs : List Int} (h : idC zs = 0) : idT zs = zs.getD 0 0 ∧ idK zs = zs.getD 1 0 ∧ idR zs = tnum ((zs.drop 4).take 4) ∧ idB zs = zs.drop 8 := by
  unfold idT idK idR idB; rw [if_pos h, if_pos h, if_pos h, if_pos h]; exact ⟨rfl, rfl, rfl, rfl⟩
def ResI (w0 w : World) : Prop := Below w0.heap.size w0 w ∧ w0.heap.size < w.heap.size ∧ w.heap[w0.heap.size]? = some (.cells #[.int .i64 0, .int .i64 0, .int .i64 0, .slice none 0 0] 34)
theorem ResI.cells {w0 w : World} (h : ResI w0 w) : w.cell? ⟨w0.heap.size, 0, none⟩ = some (.int .i64 0) ∧ w.cell? ⟨w0.heap.size, 1, none⟩ = some (.int .i64 0) ∧ w.cell? ⟨w0.heap.size, 2, none⟩ = some (.int .i64 0) ∧ w.cell? ⟨w0.heap.size, 3, none⟩ = some (.slice none 0 0) ∧ ∀ o, w.frozen? ⟨w0.heap.size, o, none⟩ = false := four_cells h.2.2
set_option maxRecDepth 100000
theorem tnum_at (zs : List Int) (p : Nat) (h : p < zs.length) : tnum ((zs.drop p).take 1) = zs.getD p 0 := by
  have e : (zs.drop p).take 1 = [zs.getD p 0] := by
    rw [List.drop_eq_getElem_cons h, List.take_succ_cons, List.take_zero, List.getD_eq_getElem?_getD, List.getElem?_eq_getElem h]
    rfl
  rw [e]
  simp [tnum]
/-- DecodeIcmp of the program. -/
theorem implDecIcmp (zs : List Int) : DecIcmpP 11 ErrT zs (idT zs) (idK zs) (idR zs) (idB zs) (idC zs) := by
  intro a n cap W hn ha hcap hm he
  have bad : ∀ q : Int, idC zs = q → ¬ q = 0 → ∀ e w', e = Ending.returned (.tuple #[.agg #[.int .i64 0, .int .i64 0, .int .i64 0, .slice none 0 0], .int .i64 q]) ∧ Below W.heap.size W w' → ∃ v0 : Value, e = .returned (.tuple #[.agg #[.int .i64 (idT zs), .int .i64 (idK zs), .int .i64 (idR zs), v0], .int .i64 (idC zs)]) ∧ OwnB w' W.heap.size v0 (idB zs) ∧ Below W.heap.size W w' := by
    rintro q hq h0 e w' ⟨rfl, hb⟩
    obtain ⟨e0, e1, e2, e3⟩ := id_no (zs := zs) (by rw [hq]; exact h0)
    exact ⟨_, by rw [e0, e1, e2, hq], by rw [e3]; exact ⟨World.ownsRow_nil _ _ _ _, by simp⟩, hb⟩
  by_cases h0 : n < 8
  · exact (implDecI_short a n cap zs W hn ha hm he h0).mono (bad 2 (by unfold idC; rw [hn, if_pos h0]) (by decide))
  by_cases h1 : 65008 < n
  · exact (implDecI_long a n cap zs W hn ha hm he h1).mono (bad 7 (by unfold idC; rw [hn, if_neg h0, if_pos h1]) (by decide))
  by_cases hs : csum zs = 0
  · obtain ⟨b, off, e0, _, _⟩ := ha.2 0 (by omega)
    subst e0
    have hC : idC zs = 0 := by unfold idC; rw [hn, if_neg h0, if_neg h1, if_pos hs]
    obtain ⟨i0, i1, i2, i3⟩ := id_yes hC
    refine (implDecI_ok b off n cap zs W hn ha hm hcap (by omega) (by omega) hs (idT zs) (by rw [i0, tnum_at zs 0 (by omega)]) (idK zs) (by rw [i1, tnum_at zs 1 (by omega)]) (idR zs) i2.symm (idB zs) (by rw [i3, List.take_of_length_le (by rw [List.length_drop]; omega)])).mono ?_
    rintro e w' ⟨v, rfl, hO, hb⟩
    exact ⟨v, by rw [hC], hO, hb⟩
  · exact (implDecI_sum a n cap zs W hn ha hm he (by omega) (by omega) hs).mono (bad 3 (by unfold idC; rw [hn, if_neg h0, if_neg h1, if_neg hs]) (by decide))
set_option maxRecDepth 100000
set_option maxHeartbeats 1000000 in
theorem pass_no (g p n cap k : Nat) (a : Option Addr) (w : World) (hc : Cur w g (.slice a n cap) p .nilIface) (hn : n ≤ 140737488355328) (hp : p ≤ n) (hk : n < p + k) (hk1 : k ≤ 1048576) :
    Calls Tryz.prog 45 #[.pointer (some ⟨g, 0, none⟩), .int .i64 (k : Int)] w fun e w' => e = .returned (.slice none 0 0) ∧ Cur w' g (.slice a n cap) p (wErr 2) ∧ w.grownBy w' (some g) := by
  have CL := hide (left_walk g p n cap a .nilIface w hc hn (by omega))
  have HC := hide hc
  have hk0 : (0 : Int) ≤ (k : Int) := by omega
  have hd : ¬ (k : Int) ≤ (n : Int) - (p : Int) := by omega
  have HD := hide hd
  clear hc hd
  go_enter Tryz.func45, Tryz.ntmps45
  go_wp2_with fail
  refine CL.out.mono ?_
  rintro e w1 ⟨rfl, m, rfl⟩
  go_wp2_with fail
  rw [decide_eq_false (Int.not_le.2 HD.out)]
  refine (demand_no g p _ _ _ (HC.out.drewN m)).mono ?_
  rintro e w2 ⟨rfl, hc2, hg2⟩
  have HC2 := hide hc2
  have HG2 : Hid (w.grownBy w2 (some g)) := hide ⟨hg2.os, hg2.tape, hg2.output, hg2.size, hg2.block⟩
  obtain ⟨d0, d1, d2, df⟩ := HC2.out.cells
  clear hc2 hg2 HC CL HD
  go_wp2_with fail
  go_ret
  exact ⟨rfl, HC2.out, HG2.out⟩
set_option maxHeartbeats 1000000 in
theorem take_no (g p n cap k : Nat) (a : Option Addr) (w : World) (hc : Cur w g (.slice a n cap) p .nilIface) (hn : n ≤ 140737488355328) (hp : p ≤ n) (hk : n < p + k) (hk1 : k ≤ 1048576) :
    Calls Tryz.prog 44 #[.pointer (some ⟨g, 0, none⟩), .int .i64 (k : Int)] w fun e w' => e = .returned (.int .i64 0) ∧ Cur w' g (.slice a n cap) p (wErr 2) ∧ w.grownBy w' (some g) := by
  have CP := hide (pass_no g p n cap k a w hc hn hp hk hk1)
  clear hc
  go_enter Tryz.func44, Tryz.ntmps44
  go_wp2_with fail
  refine CP.out.mono ?_
  rintro e w1 ⟨rfl, hc1, hg1⟩
  have HC := hide hc1
  have HG := hide hg1
  clear hc1 hg1
  go_wp2_with fail
  refine (takeNumber_none _).mono ?_
  rintro e w2 ⟨rfl, rfl⟩
  go_wp2_with fail
  go_ret
  exact ⟨rfl, HC.out, HG.out⟩
set_option maxRecDepth 100000
theorem left0_walkq (g n cap : Nat) (a : Option Addr) (ev : Value) (w : World) (hc : Cur w g (.slice a n cap) 0 ev) (hn : n ≤ 140737488355328) :
    Calls Tryz.prog 47 #[.pointer (some ⟨g, 0, none⟩)] w fun e w' => e = .returned (.int .i64 (n : Int)) ∧ ∃ m, w' = w.drewN m := by
  have h := left_walk g 0 n cap a ev w hc hn (Nat.zero_le _)
  rw [show (n : Int) - ((0 : Nat) : Int) = (n : Int) by omega] at h
  exact h
theorem tk1q (g p n cap b off : Nat) (zs : List Int) (w : World) (hc : Cur w g (.slice (some ⟨b, off, none⟩) n cap) p .nilIface) (hn : n ≤ 1048576) (hk : p + 1 ≤ n) (hcap : n ≤ cap) (hz : zs.length = n) (ha : Arr w (some ⟨b, off, none⟩) zs) (hb : b ≠ g) :
    Calls Tryz.prog 44 #[.pointer (some ⟨g, 0, none⟩), .int .i64 1] w fun e w' => e = .returned (.int .i64 (tnum ((zs.drop p).take 1))) ∧ Cur w' g (.slice (some ⟨b, off, none⟩) n cap) (p + 1) .nilIface ∧ w.grownBy w' (some g) :=
  take_ok g p n cap b off 1 zs w hc hn hk (by omega) hcap hz ha hb (by omega)
theorem ps2q (g p n cap b off : Nat) (w : World) (hc : Cur w g (.slice (some ⟨b, off, none⟩) n cap) p .nilIface) (hn : n ≤ 1048576) (hk : p + 2 ≤ n) (hcap : n ≤ cap) :
    Calls Tryz.prog 45 #[.pointer (some ⟨g, 0, none⟩), .int .i64 2] w fun e w' => e = .returned (.slice (some ⟨b, off + p, none⟩) 2 (cap - p)) ∧ Cur w' g (.slice (some ⟨b, off, none⟩) n cap) (p + 2) .nilIface ∧ w.grownBy w' (some g) :=
  pass_ok g p n cap b off 2 w hc (by omega) hk (by omega) hcap
theorem demand_ifq (g p : Nat) (bv : Value) (code : Int) (t : Bool) (w : World) (hc : Cur w g bv p .nilIface) :
    Calls Tryz.prog 31 #[.pointer (some ⟨g, 0, none⟩), .bool t, .int .i64 code] w fun e w' => e = .returned (.tuple #[]) ∧ Cur w' g bv p (if t then .nilIface else wErr code) ∧ w.grownBy w' (some g) := by
  cases t with
  | true =>
    refine (demand_yes g p bv code w hc).mono ?_
    rintro e w' ⟨rfl, rfl⟩
    exact ⟨rfl, hc, World.grownBy.refl _ _⟩
  | false => exact demand_no g p bv code w hc
set_option maxHeartbeats 1000000 in
theorem takeBytes_zeroq (g p n cap b off : Nat) (w : World) (hc : Cur w g (.slice (some ⟨b, off, none⟩) n cap) p .nilIface) (hn : n ≤ 1048576) (hp : p ≤ n) (hcap : n ≤ cap) :
    Calls Tryz.prog 46 #[.pointer (some ⟨g, 0, none⟩), .int .i64 0] w fun e w' => ∃ v, e = .returned v ∧ OwnB w' w.heap.size v [] ∧ Cur w' g (.slice (some ⟨b, off, none⟩) n cap) p .nilIface ∧ w.grownBy w' (some g) := by
  have CP := hide (pass_zero g p n cap b off w hc (by omega) hp hcap)
  obtain ⟨i, hi, hz0, hz1, hz2⟩ := info_parts Tryz.infoB
  have hs : (Tryz.prog.info? 5).map (·.size) = some 1 := by rw [hi]; simp [hz1]
  have HR := hide (fun w (d s : Option Addr) => run_copy_none (P := Tryz.prog) w 22 22 3 5 d s 0 0 0 (cap - p) Tryz.underlying22 hs (by simp))
  have hgl := hc.lt
  clear hi hz0 hz1 hz2 hs hc
  go_enter Tryz.func46, Tryz.ntmps46
  go_wp2_with fail
  refine CP.out.mono ?_
  rintro e w1 ⟨a', rfl, hc1, hg1⟩
  have rm : (Instr.makeSlice 22 (.int .i64 0) (.int .i64 0)).run Tryz.prog w1 = .ok (.slice (some ⟨w1.heap.size, 0, none⟩) 0 0) (w1.alloc (.cells (bval (List.replicate 0 0)).toArray 5)) := run_bytes 0 w1 (by omega)
  have hal := World.grownBy_alloc w1 (.cells (bval (List.replicate 0 0)).toArray 5) (some g)
  have hrow : RowB (w1.alloc (.cells (bval (List.replicate 0 0)).toArray 5)) w1.heap.size [] := heap_alloc_new _ _
  have HOW : Hid (OwnB _ w.heap.size (.slice (some ⟨w1.heap.size, 0, none⟩) 0 0) []) := hide (hrow.own (B := w.heap.size) hg1.size (by simp) (by simp))
  have HCW := hide (hc1.kept (World.grownBy_alloc w1 (.cells (bval (List.replicate 0 0)).toArray 5) none) (by simp))
  have HGW := hide (grown_trans hg1 hal)
  have hr := HR.out (w1.alloc (.cells (bval (List.replicate 0 0)).toArray 5)) (some ⟨w1.heap.size, 0, none⟩) a'
  clear hal hrow hc1 hg1 HR
  generalize w1.alloc (.cells (bval (List.replicate 0 0)).toArray 5) = W at *
  go_wp2_with fail
  go_ret
  exact ⟨_, rfl, HOW.out, HCW.out, HGW.out⟩
theorem takeBytes_anyq (g p n cap b off k : Nat) (zs : List Int) (w : World) (hc : Cur w g (.slice (some ⟨b, off, none⟩) n cap) p .nilIface) (hn : n ≤ 1048576) (hk : p + k ≤ n) (hcap : n ≤ cap) (hz : zs.length = n) (ha : Arr w (some ⟨b, off, none⟩) zs) (hb : b ≠ g) :
    Calls Tryz.prog 46 #[.pointer (some ⟨g, 0, none⟩), .int .i64 (k : Int)] w fun e w' => ∃ v, e = .returned v ∧ OwnB w' w.heap.size v ((zs.drop p).take k) ∧ Cur w' g (.slice (some ⟨b, off, none⟩) n cap) (p + k) .nilIface ∧ w.grownBy w' (some g) := by
  cases k with
  | zero => exact takeBytes_zeroq g p n cap b off w hc hn (by omega) hcap
  | succ j => exact takeBytes_ok g p n cap b off (j + 1) zs w hc hn hk (by omega) hcap hz ha hb
/-- A packet that is being read lies in block F. -/
def FRq (w : World) (F : Nat) (y0 y1 y2 y3 y4 y5 y6 y7 y8 : Int) (vo _vp : Value) : Prop := w.heap[F]? = some (.cells #[.int .i64 y0, .int .i64 y1, .int .i64 y2, .int .i64 y3, .int .i64 y4, .int .i64 y5, .int .i64 y6, .int .i64 y7, .int .i64 y8, vo] 75)
theorem FRq.lt {w : World} {F : Nat} {y0 y1 y2 y3 y4 y5 y6 y7 y8 : Int} {vo vp : Value} (h : FRq w F y0 y1 y2 y3 y4 y5 y6 y7 y8 vo vp) : F < w.heap.size := (Array.getElem?_eq_some_iff.1 h).1
theorem FRq.only {w w' : World} {F : Nat} {S : List Nat} {y0 y1 y2 y3 y4 y5 y6 y7 y8 : Int} {vo vp : Value} (h : FRq w F y0 y1 y2 y3 y4 y5 y6 y7 y8 vo vp) (k : Only S w w') (hn : F ∉ S) : FRq w' F y0 y1 y2 y3 y4 y5 y6 y7 y8 vo vp := (k.block F h.lt hn).trans h
theorem FRq.drewN {w : World} {F : Nat} {y0 y1 y2 y3 y4 y5 y6 y7 y8 : Int} {vo vp : Value} (h : FRq w F y0 y1 y2 y3 y4 y5 y6 y7 y8 vo vp) (m : Nat) : FRq (w.drewN m) F y0 y1 y2 y3 y4 y5 y6 y7 y8 vo vp := h
theorem FRq.drew {w : World} {F : Nat} {y0 y1 y2 y3 y4 y5 y6 y7 y8 : Int} {vo vp : Value} (h : FRq w F y0 y1 y2 y3 y4 y5 y6 y7 y8 vo vp) : FRq w.drew F y0 y1 y2 y3 y4 y5 y6 y7 y8 vo vp := h
theorem FRq.cells {w : World} {F : Nat} {y0 y1 y2 y3 y4 y5 y6 y7 y8 : Int} {vo vp : Value} (h : FRq w F y0 y1 y2 y3 y4 y5 y6 y7 y8 vo vp) : w.cell? ⟨F, 0, none⟩ = some (.int .i64 y0) ∧ w.cell? ⟨F, 1, none⟩ = some (.int .i64 y1) ∧ w.cell? ⟨F, 2, none⟩ = some (.int .i64 y2) ∧ w.cell? ⟨F, 3, none⟩ = some (.int .i64 y3) ∧ w.cell? ⟨F, 4, none⟩ = some (.int .i64 y4) ∧ w.cell? ⟨F, 5, none⟩ = some (.int .i64 y5) ∧ w.cell? ⟨F, 6, none⟩ = some (.int .i64 y6) ∧ w.cell? ⟨F, 7, none⟩ = some (.int .i64 y7) ∧ w.cell? ⟨F, 8, none⟩ = some (.int .i64 y8) ∧ w.cell? ⟨F, 9, none⟩ = some vo ∧ True ∧ ∀ o, w.frozen? ⟨F, o, none⟩ = false :=
  ⟨cell_of_row w F 0 _ _ _ h, cell_of_row w F 1 _ _ _ h, cell_of_row w F 2 _ _ _ h, cell_of_row w F 3 _ _ _ h, cell_of_row w F 4 _ _ _ h, cell_of_row w F 5 _ _ _ h, cell_of_row w F 6 _ _ _ h, cell_of_row w F 7 _ _ _ h, cell_of_row w F 8 _ _ _ h, cell_of_row w F 9 _ _ _ h, trivial, fun o => frozen_of_row w F o _ _ h⟩
theorem FRq.set0 {w : World} {F : Nat} {y0 y1 y2 y3 y4 y5 y6 y7 y8 : Int} {vo vp : Value} (h : FRq w F y0 y1 y2 y3 y4 y5 y6 y7 y8 vo vp) (u : Int) : FRq (w.setCell ⟨F, 0, none⟩ (.int .i64 u)) F u y1 y2 y3 y4 y5 y6 y7 y8 vo vp := heap_setCell_same w F 0 _ _ _ h
theorem FRq.set1 {w : World} {F : Nat} {y0 y1 y2 y3 y4 y5 y6 y7 y8 : Int} {vo vp : Value} (h : FRq w F y0 y1 y2 y3 y4 y5 y6 y7 y8 vo vp) (u : Int) : FRq (w.setCell ⟨F, 1, none⟩ (.int .i64 u)) F y0 u y2 y3 y4 y5 y6 y7 y8 vo vp := heap_setCell_same w F 1 _ _ _ h
theorem FRq.set2 {w : World} {F : Nat} {y0 y1 y2 y3 y4 y5 y6 y7 y8 : Int} {vo vp : Value} (h : FRq w F y0 y1 y2 y3 y4 y5 y6 y7 y8 vo vp) (u : Int) : FRq (w.setCell ⟨F, 2, none⟩ (.int .i64 u)) F y0 y1 u y3 y4 y5 y6 y7 y8 vo vp := heap_setCell_same w F 2 _ _ _ h
theorem FRq.set3 {w : World} {F : Nat} {y0 y1 y2 y3 y4 y5 y6 y7 y8 : Int} {vo vp : Value} (h : FRq w F y0 y1 y2 y3 y4 y5 y6 y7 y8 vo vp) (u : Int) : FRq (w.setCell ⟨F, 3, none⟩ (.int .i64 u)) F y0 y1 y2 u y4 y5 y6 y7 y8 vo vp := heap_setCell_same w F 3 _ _ _ h
theorem FRq.set4 {w : World} {F : Nat} {y0 y1 y2 y3 y4 y5 y6 y7 y8 : Int} {vo vp : Value} (h : FRq w F y0 y1 y2 y3 y4 y5 y6 y7 y8 vo vp) (u : Int) : FRq (w.setCell ⟨F, 4, none⟩ (.int .i64 u)) F y0 y1 y2 y3 u y5 y6 y7 y8 vo vp := heap_setCell_same w F 4 _ _ _ h
theorem FRq.set5 {w : World} {F : Nat} {y0 y1 y2 y3 y4 y5 y6 y7 y8 : Int} {vo vp : Value} (h : FRq w F y0 y1 y2 y3 y4 y5 y6 y7 y8 vo vp) (u : Int) : FRq (w.setCell ⟨F, 5, none⟩ (.int .i64 u)) F y0 y1 y2 y3 y4 u y6 y7 y8 vo vp := heap_setCell_same w F 5 _ _ _ h
theorem FRq.set6 {w : World} {F : Nat} {y0 y1 y2 y3 y4 y5 y6 y7 y8 : Int} {vo vp : Value} (h : FRq w F y0 y1 y2 y3 y4 y5 y6 y7 y8 vo vp) (u : Int) : FRq (w.setCell ⟨F, 6, none⟩ (.int .i64 u)) F y0 y1 y2 y3 y4 y5 u y7 y8 vo vp := heap_setCell_same w F 6 _ _ _ h
theorem FRq.set7 {w : World} {F : Nat} {y0 y1 y2 y3 y4 y5 y6 y7 y8 : Int} {vo vp : Value} (h : FRq w F y0 y1 y2 y3 y4 y5 y6 y7 y8 vo vp) (u : Int) : FRq (w.setCell ⟨F, 7, none⟩ (.int .i64 u)) F y0 y1 y2 y3 y4 y5 y6 u y8 vo vp := heap_setCell_same w F 7 _ _ _ h
theorem FRq.set8 {w : World} {F : Nat} {y0 y1 y2 y3 y4 y5 y6 y7 y8 : Int} {vo vp : Value} (h : FRq w F y0 y1 y2 y3 y4 y5 y6 y7 y8 vo vp) (u : Int) : FRq (w.setCell ⟨F, 8, none⟩ (.int .i64 u)) F y0 y1 y2 y3 y4 y5 y6 y7 u vo vp := heap_setCell_same w F 8 _ _ _ h
theorem FRq.set9 {w : World} {F : Nat} {y0 y1 y2 y3 y4 y5 y6 y7 y8 : Int} {vo vp : Value} (h : FRq w F y0 y1 y2 y3 y4 y5 y6 y7 y8 vo vp) (u : Value) : FRq (w.setCell ⟨F, 9, none⟩ u) F y0 y1 y2 y3 y4 y5 y6 y7 y8 u vp := heap_setCell_same w F 9 _ _ _ h
theorem only_cellq {w : World} {g F : Nat} (i : Nat) (u : Value) : Only [g, F] w (w.setCell ⟨F, i, none⟩ u) := (Only.of_some (grown_cell w F i u)).mono (by simp)
theorem only_gq {w w' : World} {g F : Nat} (h : w.grownBy w' (some g)) : Only [g, F] w w' := (Only.of_some h).mono (by simp)
theorem only_drewq {S : List Nat} (w : World) : Only S w w.drew := ⟨rfl, rfl, rfl, Nat.le_refl _, fun _ _ _ => rfl⟩
theorem only_drewNq {S : List Nat} (w : World) (m : Nat) : Only S w (w.drewN m) := ⟨rfl, rfl, rfl, Nat.le_refl _, fun _ _ _ => rfl⟩
theorem passed_zeroq (g n cap : Nat) (a : Option Addr) (ev : Value) (w : World) (hc : Cur w g (.slice a n cap) 0 ev) : Calls Tryz.prog 72 #[.pointer (some ⟨g, 0, none⟩)] w fun e w' => (∃ a2, e = .returned (.slice a2 0 cap)) ∧ ∃ m, w' = w.drewN m := by
  obtain ⟨c0, c1, c2, cf⟩ := hc.cells
  have hs : ∀ w : World, (sizeOf (Tryz.prog.elem 22)).run Tryz.prog w = .ok 1 w := fun w => Tryz.sizeOf5 w
  have sl : ∀ w : World, (Instr.slice 22 (.slice a n cap) none (some (.int .i64 0)) none).run Tryz.prog w = .ok (.slice (if cap = 0 then a else a.map (·.add 0)) 0 cap) w := fun w => by
    rw [run_slice_h (P := Tryz.prog) (w := w) 22 a n cap Tryz.underlying22 .i64 0 (by omega) (by omega), hs]
    simp [sliced, Result.andThen]
  generalize (if cap = 0 then a else a.map (·.add 0)) = a2 at sl
  clear hc hs
  go_enter Tryz.func72, Tryz.ntmps72
  go_wp2
  go_quiet (fail)
  go_wp2
  go_ret
  exact ⟨⟨_, rfl⟩, _, rfl⟩
set_option maxRecDepth 100000
theorem far7 {w : World} {R F j : Nat} (h : R ≠ F) {v : Option Value} {x0 x1 x2 x3 x4 x5 x6 : Value} (k : w.cell? ⟨F, j, none⟩ = v) : (((((((w.setCell ⟨R, 0, none⟩ x0).setCell ⟨R, 1, none⟩ x1).setCell ⟨R, 2, none⟩ x2).setCell ⟨R, 3, none⟩ x3).setCell ⟨R, 4, none⟩ x4).setCell ⟨R, 5, none⟩ x5).setCell ⟨R, 6, none⟩ x6).cell? ⟨F, j, none⟩ = v := (World.cell?_setCell_far _ _ _ _ h).trans ((World.cell?_setCell_far _ _ _ _ h).trans ((World.cell?_setCell_far _ _ _ _ h).trans ((World.cell?_setCell_far _ _ _ _ h).trans ((World.cell?_setCell_far _ _ _ _ h).trans ((World.cell?_setCell_far _ _ _ _ h).trans ((World.cell?_setCell_far _ _ _ _ h).trans (k)))))))
theorem DS0.only {w W W' : World} {zr : Array Value} {T p p' F : Nat} {bv ev bv' ev' : Value} (h : DS0 w W zr T bv p ev) (k : Only [w.heap.size + 1, F] W W') (hF : w.heap.size < F) (hc : Cur W' (w.heap.size + 1) bv' p' ev') : DS0 w W' zr T bv' p' ev' :=
  ⟨h.1.trans (k.below (by intro x hx; simp at hx; omega) h.1.size), (k.block _ h.2.1.lt (by simp; omega)).trans h.2.1, hc⟩
set_option maxHeartbeats 8000000 in
theorem implQuote_bad (a : Option Addr) (n cap : Nat) (c : Int) (w : World) (hm : n ≤ 1048576) (hc0 : c ≠ 0) (he : ErrT w)
    (hT : ∀ W, Cur W (w.heap.size + 1) (.slice a n cap) 0 .nilIface → FRq W (w.heap.size + 2) 0 0 0 0 0 0 0 0 0 (.slice none 0 0) (.slice none 0 0) → Below w.heap.size w W → Calls Tryz.prog 50 #[.pointer (some ⟨w.heap.size + 2, 0, none⟩), .pointer (some ⟨w.heap.size + 1, 0, none⟩)] W fun e w' => ∃ (p : Nat) (y0 y1 y2 y3 y4 y5 y6 y7 y8 : Int) (vo : Value), e = .returned (.tuple #[]) ∧ Cur w' (w.heap.size + 1) (.slice a n cap) p (wErr c) ∧ FRq w' (w.heap.size + 2) y0 y1 y2 y3 y4 y5 y6 y7 y8 vo (.slice none 0 0) ∧ Only [w.heap.size + 1, w.heap.size + 2] W w' ∧ p ≤ n) :
    Calls Tryz.prog 13 #[.slice a n cap] w fun e w' => e = .returned (.tuple #[.agg #[.int .i64 0, .int .i64 0, .int .i64 0, .int .i64 0, .int .i64 0, .int .i64 0, .int .i64 0], .int .i64 c]) ∧ Below w.heap.size w w' := by
  have HS0 := hide (DS0.start w #[.int .i64 0, .int .i64 0, .int .i64 0, .int .i64 0, .int .i64 0, .int .i64 0, .int .i64 0] 39 (.slice a n cap))
  have hsz := size_two w (.cells #[.int .i64 0, .int .i64 0, .int .i64 0, .int .i64 0, .int .i64 0, .int .i64 0, .int .i64 0] 39) (.cells #[.slice a n cap, .int .i64 0, .nilIface] 65)
  have HT := hide hT
  clear hT
  have HE := hide he
  clear he
  have HF0 : Hid (FRq (((w.alloc (.cells #[.int .i64 0, .int .i64 0, .int .i64 0, .int .i64 0, .int .i64 0, .int .i64 0, .int .i64 0] 39)).alloc (.cells #[.slice a n cap, .int .i64 0, .nilIface] 65)).alloc (.cells #[.int .i64 0, .int .i64 0, .int .i64 0, .int .i64 0, .int .i64 0, .int .i64 0, .int .i64 0, .int .i64 0, .int .i64 0, .slice none 0 0] 75)) (w.heap.size + 2) 0 0 0 0 0 0 0 0 0 (.slice none 0 0) (.slice none 0 0)) := hide (by unfold FRq; rw [← hsz]; exact heap_alloc_new _ _)
  have HS1 := hide (HS0.out.next ((Below.refl _ _).alloc (Nat.le_refl _) (.cells #[.int .i64 0, .int .i64 0, .int .i64 0, .int .i64 0, .int .i64 0, .int .i64 0, .int .i64 0, .int .i64 0, .int .i64 0, .slice none 0 0] 75)))
  go_enter Tryz.func13, Tryz.ntmps13
  go_wp2_with fail
  generalize hW : (((w.alloc (.cells #[.int .i64 0, .int .i64 0, .int .i64 0, .int .i64 0, .int .i64 0, .int .i64 0, .int .i64 0] 39)).alloc (.cells #[.slice a n cap, .int .i64 0, .nilIface] 65)).alloc (.cells #[.int .i64 0, .int .i64 0, .int .i64 0, .int .i64 0, .int .i64 0, .int .i64 0, .int .i64 0, .int .i64 0, .int .i64 0, .slice none 0 0] 75)) = W at *
  clear hW HS0 hsz
  refine (HT.out W HS1.out.2.2 HF0.out HS1.out.1).mono ?_
  rintro e w1 ⟨p, y0, y1, y2, y3, y4, y5, y6, y7, y8, vo, rfl, hc, hf, ho, hp⟩
  have HS2 := hide (HS1.out.only ho (by omega) hc)
  have HF2 := hide hf
  obtain ⟨f0, f1, f2, f3, f4, f5, f6, f7, f8, f9, _, ff⟩ := HF2.out.cells
  clear HT HS1 HF0 hc hf ho
  have HT0 := hide (DS1.start HS2.out #[.int .i64 y6, .int .i64 y7, .int .i64 y8, .int .i64 y3, .int .i64 0, .int .i64 0, .int .i64 0] 39)
  have hF : w.heap.size + 1 < w1.heap.size := HS2.out.2.2.lt
  clear HS2
  go_wp2_with fail
  generalize hV : w1.alloc (.cells #[.int .i64 y6, .int .i64 y7, .int .i64 y8, .int .i64 y3, .int .i64 0, .int .i64 0, .int .i64 0] 39) = V0 at *
  clear hV f0 f1 f2 f3 f4 f5 f6 f7 f8 f9 ff HF2
  generalize w1.heap.size = F at *
  have C := hide (take_err (w.heap.size + 1) (p) n cap _ c 2 V0 HT0.out.1.2.2 (by omega) (by omega) (by omega) (by omega))
  refine C.out.mono ?_
  rintro e w' ⟨rfl, mm, rfl⟩
  have HT1 : Hid (DS1 w (V0.drewN mm) #[.int .i64 0, .int .i64 0, .int .i64 0, .int .i64 0, .int .i64 0, .int .i64 0, .int .i64 0] 39 (.slice a n cap) (p) (wErr c) F #[.int .i64 y6, .int .i64 y7, .int .i64 y8, .int .i64 y3, .int .i64 0, .int .i64 0, .int .i64 0] 39) := hide (HT0.out.drewN mm)
  generalize V0.drewN mm = V1 at *
  clear C HT0
  have k0 := HT1.out.2.1.cell 4 _ rfl
  have fz := HT1.out.2.1.frozen
  have HT2 : Hid (DS1 w (V1.setCell ⟨F, 4, none⟩ (.int .i64 0)) #[.int .i64 0, .int .i64 0, .int .i64 0, .int .i64 0, .int .i64 0, .int .i64 0, .int .i64 0] 39 (.slice a n cap) (p) (wErr c) F #[.int .i64 y6, .int .i64 y7, .int .i64 y8, .int .i64 y3, .int .i64 0, .int .i64 0, .int .i64 0] 39) := hide (HT1.out.set 4 (.int .i64 0))
  go_wp2_with fail
  generalize V1.setCell ⟨F, 4, none⟩ (.int .i64 0) = V2 at *
  clear k0 fz HT1
  have C := hide (take_err (w.heap.size + 1) (p) n cap _ c 2 V2 HT2.out.1.2.2 (by omega) (by omega) (by omega) (by omega))
  refine C.out.mono ?_
  rintro e w' ⟨rfl, mm, rfl⟩
  have HT3 : Hid (DS1 w (V2.drewN mm) #[.int .i64 0, .int .i64 0, .int .i64 0, .int .i64 0, .int .i64 0, .int .i64 0, .int .i64 0] 39 (.slice a n cap) (p) (wErr c) F #[.int .i64 y6, .int .i64 y7, .int .i64 y8, .int .i64 y3, .int .i64 0, .int .i64 0, .int .i64 0] 39) := hide (HT2.out.drewN mm)
  generalize V2.drewN mm = V3 at *
  clear C HT2
  have k0 := HT3.out.2.1.cell 5 _ rfl
  have fz := HT3.out.2.1.frozen
  have HT4 : Hid (DS1 w (V3.setCell ⟨F, 5, none⟩ (.int .i64 0)) #[.int .i64 0, .int .i64 0, .int .i64 0, .int .i64 0, .int .i64 0, .int .i64 0, .int .i64 0] 39 (.slice a n cap) (p) (wErr c) F #[.int .i64 y6, .int .i64 y7, .int .i64 y8, .int .i64 y3, .int .i64 0, .int .i64 0, .int .i64 0] 39) := hide (HT3.out.set 5 (.int .i64 0))
  go_wp2_with fail
  generalize V3.setCell ⟨F, 5, none⟩ (.int .i64 0) = V4 at *
  clear k0 fz HT3
  have C := hide (take_err (w.heap.size + 1) (p) n cap _ c 4 V4 HT4.out.1.2.2 (by omega) (by omega) (by omega) (by omega))
  refine C.out.mono ?_
  rintro e w' ⟨rfl, mm, rfl⟩
  have HT5 : Hid (DS1 w (V4.drewN mm) #[.int .i64 0, .int .i64 0, .int .i64 0, .int .i64 0, .int .i64 0, .int .i64 0, .int .i64 0] 39 (.slice a n cap) (p) (wErr c) F #[.int .i64 y6, .int .i64 y7, .int .i64 y8, .int .i64 y3, .int .i64 0, .int .i64 0, .int .i64 0] 39) := hide (HT4.out.drewN mm)
  generalize V4.drewN mm = V5 at *
  clear C HT4
  have k0 := HT5.out.2.1.cell 6 _ rfl
  have fz := HT5.out.2.1.frozen
  have HT6 : Hid (DS1 w (V5.setCell ⟨F, 6, none⟩ (.int .i64 0)) #[.int .i64 0, .int .i64 0, .int .i64 0, .int .i64 0, .int .i64 0, .int .i64 0, .int .i64 0] 39 (.slice a n cap) (p) (wErr c) F #[.int .i64 y6, .int .i64 y7, .int .i64 y8, .int .i64 y3, .int .i64 0, .int .i64 0, .int .i64 0] 39) := hide (HT5.out.set 6 (.int .i64 0))
  go_wp2_with fail
  generalize V5.setCell ⟨F, 6, none⟩ (.int .i64 0) = V6 at *
  clear k0 fz HT5
  have HTD := hide (HT6.out.drew)
  have HE7 := hide (HE.out.below HTD.out.1.1 (Nat.le_refl _))
  clear HE
  have CA := hide (ansQuote_err (y6) (y7) (y8) (y3) (0) (0) (0) c hc0 V6.drew HE7.out)
  have HK : Hid (V6.drew.cell? ⟨F, 0, none⟩ = some (.int .i64 y6) ∧ V6.drew.cell? ⟨F, 1, none⟩ = some (.int .i64 y7) ∧ V6.drew.cell? ⟨F, 2, none⟩ = some (.int .i64 y8) ∧ V6.drew.cell? ⟨F, 3, none⟩ = some (.int .i64 y3) ∧ V6.drew.cell? ⟨F, 4, none⟩ = some (.int .i64 0) ∧ V6.drew.cell? ⟨F, 5, none⟩ = some (.int .i64 0) ∧ V6.drew.cell? ⟨F, 6, none⟩ = some (.int .i64 0) ∧ V6.drew.cell? ⟨w.heap.size + 1, 2, none⟩ = some (wErr c)) := hide ⟨HTD.out.2.1.cell 0 _ rfl, HTD.out.2.1.cell 1 _ rfl, HTD.out.2.1.cell 2 _ rfl, HTD.out.2.1.cell 3 _ rfl, HTD.out.2.1.cell 4 _ rfl, HTD.out.2.1.cell 5 _ rfl, HTD.out.2.1.cell 6 _ rfl, HTD.out.1.2.2.cells.2.2.1⟩
  have hRF : w.heap.size ≠ F := by omega
  have hRC : w.heap.size ≠ w.heap.size + 1 := by omega
  clear HT6 HE7
  go_region_held3 (fun w' => w'.cell? ⟨F, 0, none⟩ = some (.int .i64 y6) ∧ w'.cell? ⟨F, 1, none⟩ = some (.int .i64 y7) ∧ w'.cell? ⟨F, 2, none⟩ = some (.int .i64 y8) ∧ w'.cell? ⟨F, 3, none⟩ = some (.int .i64 y3) ∧ w'.cell? ⟨F, 4, none⟩ = some (.int .i64 0) ∧ w'.cell? ⟨F, 5, none⟩ = some (.int .i64 0) ∧ w'.cell? ⟨F, 6, none⟩ = some (.int .i64 0) ∧ w'.cell? ⟨w.heap.size + 1, 2, none⟩ = some (wErr c)) (first | with_reducible assumption | with_reducible exact HK.out | exact ⟨far7 hRF hk9.1, far7 hRF hk9.2.1, far7 hRF hk9.2.2.1, far7 hRF hk9.2.2.2.1, far7 hRF hk9.2.2.2.2.1, far7 hRF hk9.2.2.2.2.2.1, far7 hRF hk9.2.2.2.2.2.2.1, far7 hRC hk9.2.2.2.2.2.2.2⟩)
    ((go_at_call 51; refine CA.out.mono ?_; rintro e w8 ⟨rfl, hb8⟩; have hk9 : w8.cell? ⟨F, 0, none⟩ = some (.int .i64 y6) ∧ w8.cell? ⟨F, 1, none⟩ = some (.int .i64 y7) ∧ w8.cell? ⟨F, 2, none⟩ = some (.int .i64 y8) ∧ w8.cell? ⟨F, 3, none⟩ = some (.int .i64 y3) ∧ w8.cell? ⟨F, 4, none⟩ = some (.int .i64 0) ∧ w8.cell? ⟨F, 5, none⟩ = some (.int .i64 0) ∧ w8.cell? ⟨F, 6, none⟩ = some (.int .i64 0) ∧ w8.cell? ⟨w.heap.size + 1, 2, none⟩ = some (wErr c) := ⟨(HTD.out.next hb8).2.1.cell 0 _ rfl, (HTD.out.next hb8).2.1.cell 1 _ rfl, (HTD.out.next hb8).2.1.cell 2 _ rfl, (HTD.out.next hb8).2.1.cell 3 _ rfl, (HTD.out.next hb8).2.1.cell 4 _ rfl, (HTD.out.next hb8).2.1.cell 5 _ rfl, (HTD.out.next hb8).2.1.cell 6 _ rfl, (HTD.out.next hb8).1.2.2.cells.2.2.1⟩; have d0 := (HTD.out.next hb8).1.2.1.cell 0 _ rfl; have d1 := (HTD.out.next hb8).1.2.1.cell 1 _ rfl; have d2 := (HTD.out.next hb8).1.2.1.cell 2 _ rfl; have d3 := (HTD.out.next hb8).1.2.1.cell 3 _ rfl; have d4 := (HTD.out.next hb8).1.2.1.cell 4 _ rfl; have d5 := (HTD.out.next hb8).1.2.1.cell 5 _ rfl; have d6 := (HTD.out.next hb8).1.2.1.cell 6 _ rfl; have fz := (HTD.out.next hb8).1.2.1.frozen))
  all_goals
    have HT9 := hide (HTD.out.next hb8)
    clear hb8 HTD CA HK hk9
    go_wp2_with fail
    exact bodyPost_ret (v := .tuple #[.agg #[.int .i64 0, .int .i64 0, .int .i64 0, .int .i64 0, .int .i64 0, .int .i64 0, .int .i64 0], .int .i64 c]) (by simp [results, Tryz.results13, go_sem, d0, d1, d2, d3, d4, d5, d6]) rfl ⟨rfl, (((((((HT9.out.1.1.setCell (p := ⟨w.heap.size, 0, none⟩) (Nat.le_refl _) _).setCell (p := ⟨w.heap.size, 1, none⟩) (Nat.le_refl _) _).setCell (p := ⟨w.heap.size, 2, none⟩) (Nat.le_refl _) _).setCell (p := ⟨w.heap.size, 3, none⟩) (Nat.le_refl _) _).setCell (p := ⟨w.heap.size, 4, none⟩) (Nat.le_refl _) _).setCell (p := ⟨w.heap.size, 5, none⟩) (Nat.le_refl _) _).setCell (p := ⟨w.heap.size, 6, none⟩) (Nat.le_refl _) _)⟩
set_option maxHeartbeats 8000000 in
theorem implQuote_s1 (b off n cap : Nat) (zs : List Int) (y3 y6 y7 y8 : Int) (w : World) (hm : n ≤ 1048576) (hn : zs.length = n) (ha : Arr w (some ⟨b, off, none⟩) zs) (hcap : n ≤ cap) (h0 : 0 < n) (P : Nat) (hP : P ≤ n) (he : ErrT w) (h : n < P + 2)
    (hT : ∀ W, Cur W (w.heap.size + 1) (.slice (some ⟨b, off, none⟩) n cap) 0 .nilIface → FRq W (w.heap.size + 2) 0 0 0 0 0 0 0 0 0 (.slice none 0 0) (.slice none 0 0) → Below w.heap.size w W → Calls Tryz.prog 50 #[.pointer (some ⟨w.heap.size + 2, 0, none⟩), .pointer (some ⟨w.heap.size + 1, 0, none⟩)] W fun e w' => ∃ (y0 y1 y2 y4 y5 : Int) (vo : Value), e = .returned (.tuple #[]) ∧ Cur w' (w.heap.size + 1) (.slice (some ⟨b, off, none⟩) n cap) P .nilIface ∧ FRq w' (w.heap.size + 2) y0 y1 y2 y3 y4 y5 y6 y7 y8 vo (.slice none 0 0) ∧ Only [w.heap.size + 1, w.heap.size + 2] W w') :
    Calls Tryz.prog 13 #[.slice (some ⟨b, off, none⟩) n cap] w fun e w' => e = .returned (.tuple #[.agg #[.int .i64 0, .int .i64 0, .int .i64 0, .int .i64 0, .int .i64 0, .int .i64 0, .int .i64 0], .int .i64 2]) ∧ Below w.heap.size w w' := by
  have HS0 := hide (DS0.start w #[.int .i64 0, .int .i64 0, .int .i64 0, .int .i64 0, .int .i64 0, .int .i64 0, .int .i64 0] 39 (.slice (some ⟨b, off, none⟩) n cap))
  have hsz := size_two w (.cells #[.int .i64 0, .int .i64 0, .int .i64 0, .int .i64 0, .int .i64 0, .int .i64 0, .int .i64 0] 39) (.cells #[.slice (some ⟨b, off, none⟩) n cap, .int .i64 0, .nilIface] 65)
  have HT := hide hT
  clear hT
  obtain ⟨_, _, e0, hbl, _⟩ := ha.2 0 (by omega)
  cases e0
  have hbne : b ≠ w.heap.size + 1 := by omega
  have HA := hide ha
  have HN := hide hn
  clear ha hn
  have HE := hide he
  clear he
  have HF0 : Hid (FRq (((w.alloc (.cells #[.int .i64 0, .int .i64 0, .int .i64 0, .int .i64 0, .int .i64 0, .int .i64 0, .int .i64 0] 39)).alloc (.cells #[.slice (some ⟨b, off, none⟩) n cap, .int .i64 0, .nilIface] 65)).alloc (.cells #[.int .i64 0, .int .i64 0, .int .i64 0, .int .i64 0, .int .i64 0, .int .i64 0, .int .i64 0, .int .i64 0, .int .i64 0, .slice none 0 0] 75)) (w.heap.size + 2) 0 0 0 0 0 0 0 0 0 (.slice none 0 0) (.slice none 0 0)) := hide (by unfold FRq; rw [← hsz]; exact heap_alloc_new _ _)
  have HS1 := hide (HS0.out.next ((Below.refl _ _).alloc (Nat.le_refl _) (.cells #[.int .i64 0, .int .i64 0, .int .i64 0, .int .i64 0, .int .i64 0, .int .i64 0, .int .i64 0, .int .i64 0, .int .i64 0, .slice none 0 0] 75)))
  go_enter Tryz.func13, Tryz.ntmps13
  go_wp2_with fail
  generalize hW : (((w.alloc (.cells #[.int .i64 0, .int .i64 0, .int .i64 0, .int .i64 0, .int .i64 0, .int .i64 0, .int .i64 0] 39)).alloc (.cells #[.slice (some ⟨b, off, none⟩) n cap, .int .i64 0, .nilIface] 65)).alloc (.cells #[.int .i64 0, .int .i64 0, .int .i64 0, .int .i64 0, .int .i64 0, .int .i64 0, .int .i64 0, .int .i64 0, .int .i64 0, .slice none 0 0] 75)) = W at *
  clear hW HS0 hsz
  refine (HT.out W HS1.out.2.2 HF0.out HS1.out.1).mono ?_
  rintro e w1 ⟨y0, y1, y2, y4, y5, vo, rfl, hc, hf, ho⟩
  have HS2 := hide (HS1.out.only ho (by omega) hc)
  have HF2 := hide hf
  obtain ⟨f0, f1, f2, f3, f4, f5, f6, f7, f8, f9, _, ff⟩ := HF2.out.cells
  clear HT HS1 HF0 hc hf ho
  have HT0 := hide (DS1.start HS2.out #[.int .i64 y6, .int .i64 y7, .int .i64 y8, .int .i64 y3, .int .i64 0, .int .i64 0, .int .i64 0] 39)
  have hF : w.heap.size + 1 < w1.heap.size := HS2.out.2.2.lt
  clear HS2
  go_wp2_with fail
  generalize hV : w1.alloc (.cells #[.int .i64 y6, .int .i64 y7, .int .i64 y8, .int .i64 y3, .int .i64 0, .int .i64 0, .int .i64 0] 39) = V0 at *
  clear hV f0 f1 f2 f3 f4 f5 f6 f7 f8 f9 ff HF2
  generalize w1.heap.size = F at *
  have C := hide (take_no (w.heap.size + 1) (P) n cap 2 _ V0 HT0.out.1.2.2 (by omega) (by omega) (by omega) (by omega))
  refine C.out.mono ?_
  rintro e V1 ⟨rfl, hc, hg⟩
  have HT1 : Hid (DS1 w V1 #[.int .i64 0, .int .i64 0, .int .i64 0, .int .i64 0, .int .i64 0, .int .i64 0, .int .i64 0] 39 (.slice (some ⟨b, off, none⟩) n cap) (P) (wErr 2) F #[.int .i64 y6, .int .i64 y7, .int .i64 y8, .int .i64 y3, .int .i64 0, .int .i64 0, .int .i64 0] 39) := hide (HT0.out.moved hg hc)
  clear C hc hg HT0
  have k0 := HT1.out.2.1.cell 4 _ rfl
  have fz := HT1.out.2.1.frozen
  have HT2 : Hid (DS1 w (V1.setCell ⟨F, 4, none⟩ (.int .i64 0)) #[.int .i64 0, .int .i64 0, .int .i64 0, .int .i64 0, .int .i64 0, .int .i64 0, .int .i64 0] 39 (.slice (some ⟨b, off, none⟩) n cap) (P) (wErr 2) F #[.int .i64 y6, .int .i64 y7, .int .i64 y8, .int .i64 y3, .int .i64 0, .int .i64 0, .int .i64 0] 39) := hide (HT1.out.set 4 (.int .i64 0))
  go_wp2_with fail
  generalize V1.setCell ⟨F, 4, none⟩ (.int .i64 0) = V2 at *
  clear k0 fz HT1
  have C := hide (take_err (w.heap.size + 1) (P) n cap _ 2 2 V2 HT2.out.1.2.2 (by omega) (by omega) (by omega) (by omega))
  refine C.out.mono ?_
  rintro e w' ⟨rfl, mm, rfl⟩
  have HT3 : Hid (DS1 w (V2.drewN mm) #[.int .i64 0, .int .i64 0, .int .i64 0, .int .i64 0, .int .i64 0, .int .i64 0, .int .i64 0] 39 (.slice (some ⟨b, off, none⟩) n cap) (P) (wErr 2) F #[.int .i64 y6, .int .i64 y7, .int .i64 y8, .int .i64 y3, .int .i64 0, .int .i64 0, .int .i64 0] 39) := hide (HT2.out.drewN mm)
  generalize V2.drewN mm = V3 at *
  clear C HT2
  have k0 := HT3.out.2.1.cell 5 _ rfl
  have fz := HT3.out.2.1.frozen
  have HT4 : Hid (DS1 w (V3.setCell ⟨F, 5, none⟩ (.int .i64 0)) #[.int .i64 0, .int .i64 0, .int .i64 0, .int .i64 0, .int .i64 0, .int .i64 0, .int .i64 0] 39 (.slice (some ⟨b, off, none⟩) n cap) (P) (wErr 2) F #[.int .i64 y6, .int .i64 y7, .int .i64 y8, .int .i64 y3, .int .i64 0, .int .i64 0, .int .i64 0] 39) := hide (HT3.out.set 5 (.int .i64 0))
  go_wp2_with fail
  generalize V3.setCell ⟨F, 5, none⟩ (.int .i64 0) = V4 at *
  clear k0 fz HT3
  have C := hide (take_err (w.heap.size + 1) (P) n cap _ 2 4 V4 HT4.out.1.2.2 (by omega) (by omega) (by omega) (by omega))
  refine C.out.mono ?_
  rintro e w' ⟨rfl, mm, rfl⟩
  have HT5 : Hid (DS1 w (V4.drewN mm) #[.int .i64 0, .int .i64 0, .int .i64 0, .int .i64 0, .int .i64 0, .int .i64 0, .int .i64 0] 39 (.slice (some ⟨b, off, none⟩) n cap) (P) (wErr 2) F #[.int .i64 y6, .int .i64 y7, .int .i64 y8, .int .i64 y3, .int .i64 0, .int .i64 0, .int .i64 0] 39) := hide (HT4.out.drewN mm)
  generalize V4.drewN mm = V5 at *
  clear C HT4
  have k0 := HT5.out.2.1.cell 6 _ rfl
  have fz := HT5.out.2.1.frozen
  have HT6 : Hid (DS1 w (V5.setCell ⟨F, 6, none⟩ (.int .i64 0)) #[.int .i64 0, .int .i64 0, .int .i64 0, .int .i64 0, .int .i64 0, .int .i64 0, .int .i64 0] 39 (.slice (some ⟨b, off, none⟩) n cap) (P) (wErr 2) F #[.int .i64 y6, .int .i64 y7, .int .i64 y8, .int .i64 y3, .int .i64 0, .int .i64 0, .int .i64 0] 39) := hide (HT5.out.set 6 (.int .i64 0))
  go_wp2_with fail
  generalize V5.setCell ⟨F, 6, none⟩ (.int .i64 0) = V6 at *
  clear k0 fz HT5
  have HTD := hide (HT6.out.drew)
  have HE7 := hide (HE.out.below HTD.out.1.1 (Nat.le_refl _))
  clear HE
  have CA := hide (ansQuote_err (y6) (y7) (y8) (y3) (0) (0) (0) 2 (by decide) V6.drew HE7.out)
  have HK : Hid (V6.drew.cell? ⟨F, 0, none⟩ = some (.int .i64 y6) ∧ V6.drew.cell? ⟨F, 1, none⟩ = some (.int .i64 y7) ∧ V6.drew.cell? ⟨F, 2, none⟩ = some (.int .i64 y8) ∧ V6.drew.cell? ⟨F, 3, none⟩ = some (.int .i64 y3) ∧ V6.drew.cell? ⟨F, 4, none⟩ = some (.int .i64 0) ∧ V6.drew.cell? ⟨F, 5, none⟩ = some (.int .i64 0) ∧ V6.drew.cell? ⟨F, 6, none⟩ = some (.int .i64 0) ∧ V6.drew.cell? ⟨w.heap.size + 1, 2, none⟩ = some (wErr 2)) := hide ⟨HTD.out.2.1.cell 0 _ rfl, HTD.out.2.1.cell 1 _ rfl, HTD.out.2.1.cell 2 _ rfl, HTD.out.2.1.cell 3 _ rfl, HTD.out.2.1.cell 4 _ rfl, HTD.out.2.1.cell 5 _ rfl, HTD.out.2.1.cell 6 _ rfl, HTD.out.1.2.2.cells.2.2.1⟩
  have hRF : w.heap.size ≠ F := by omega
  have hRC : w.heap.size ≠ w.heap.size + 1 := by omega
  clear HT6 HE7
  go_region_held3 (fun w' => w'.cell? ⟨F, 0, none⟩ = some (.int .i64 y6) ∧ w'.cell? ⟨F, 1, none⟩ = some (.int .i64 y7) ∧ w'.cell? ⟨F, 2, none⟩ = some (.int .i64 y8) ∧ w'.cell? ⟨F, 3, none⟩ = some (.int .i64 y3) ∧ w'.cell? ⟨F, 4, none⟩ = some (.int .i64 0) ∧ w'.cell? ⟨F, 5, none⟩ = some (.int .i64 0) ∧ w'.cell? ⟨F, 6, none⟩ = some (.int .i64 0) ∧ w'.cell? ⟨w.heap.size + 1, 2, none⟩ = some (wErr 2)) (first | with_reducible assumption | with_reducible exact HK.out | exact ⟨far7 hRF hk9.1, far7 hRF hk9.2.1, far7 hRF hk9.2.2.1, far7 hRF hk9.2.2.2.1, far7 hRF hk9.2.2.2.2.1, far7 hRF hk9.2.2.2.2.2.1, far7 hRF hk9.2.2.2.2.2.2.1, far7 hRC hk9.2.2.2.2.2.2.2⟩)
    ((go_at_call 51; refine CA.out.mono ?_; rintro e w8 ⟨rfl, hb8⟩; have hk9 : w8.cell? ⟨F, 0, none⟩ = some (.int .i64 y6) ∧ w8.cell? ⟨F, 1, none⟩ = some (.int .i64 y7) ∧ w8.cell? ⟨F, 2, none⟩ = some (.int .i64 y8) ∧ w8.cell? ⟨F, 3, none⟩ = some (.int .i64 y3) ∧ w8.cell? ⟨F, 4, none⟩ = some (.int .i64 0) ∧ w8.cell? ⟨F, 5, none⟩ = some (.int .i64 0) ∧ w8.cell? ⟨F, 6, none⟩ = some (.int .i64 0) ∧ w8.cell? ⟨w.heap.size + 1, 2, none⟩ = some (wErr 2) := ⟨(HTD.out.next hb8).2.1.cell 0 _ rfl, (HTD.out.next hb8).2.1.cell 1 _ rfl, (HTD.out.next hb8).2.1.cell 2 _ rfl, (HTD.out.next hb8).2.1.cell 3 _ rfl, (HTD.out.next hb8).2.1.cell 4 _ rfl, (HTD.out.next hb8).2.1.cell 5 _ rfl, (HTD.out.next hb8).2.1.cell 6 _ rfl, (HTD.out.next hb8).1.2.2.cells.2.2.1⟩; have d0 := (HTD.out.next hb8).1.2.1.cell 0 _ rfl; have d1 := (HTD.out.next hb8).1.2.1.cell 1 _ rfl; have d2 := (HTD.out.next hb8).1.2.1.cell 2 _ rfl; have d3 := (HTD.out.next hb8).1.2.1.cell 3 _ rfl; have d4 := (HTD.out.next hb8).1.2.1.cell 4 _ rfl; have d5 := (HTD.out.next hb8).1.2.1.cell 5 _ rfl; have d6 := (HTD.out.next hb8).1.2.1.cell 6 _ rfl; have fz := (HTD.out.next hb8).1.2.1.frozen))
  all_goals
    have HT9 := hide (HTD.out.next hb8)
    clear hb8 HTD CA HK hk9
    go_wp2_with fail
    exact bodyPost_ret (v := .tuple #[.agg #[.int .i64 0, .int .i64 0, .int .i64 0, .int .i64 0, .int .i64 0, .int .i64 0, .int .i64 0], .int .i64 2]) (by simp [results, Tryz.results13, go_sem, d0, d1, d2, d3, d4, d5, d6]) rfl ⟨rfl, (((((((HT9.out.1.1.setCell (p := ⟨w.heap.size, 0, none⟩) (Nat.le_refl _) _).setCell (p := ⟨w.heap.size, 1, none⟩) (Nat.le_refl _) _).setCell (p := ⟨w.heap.size, 2, none⟩) (Nat.le_refl _) _).setCell (p := ⟨w.heap.size, 3, none⟩) (Nat.le_refl _) _).setCell (p := ⟨w.heap.size, 4, none⟩) (Nat.le_refl _) _).setCell (p := ⟨w.heap.size, 5, none⟩) (Nat.le_refl _) _).setCell (p := ⟨w.heap.size, 6, none⟩) (Nat.le_refl _) _)⟩
set_option maxHeartbeats 8000000 in
theorem implQuote_s2 (b off n cap : Nat) (zs : List Int) (y3 y6 y7 y8 : Int) (w : World) (hm : n ≤ 1048576) (hn : zs.length = n) (ha : Arr w (some ⟨b, off, none⟩) zs) (hcap : n ≤ cap) (h0 : 0 < n) (P : Nat) (hP : P ≤ n) (he : ErrT w) (h1 : P + 2 ≤ n) (h : n < P + 2 + 2) (q4 : Int) (hq4 : tnum ((zs.drop P).take 2) = q4)
    (hT : ∀ W, Cur W (w.heap.size + 1) (.slice (some ⟨b, off, none⟩) n cap) 0 .nilIface → FRq W (w.heap.size + 2) 0 0 0 0 0 0 0 0 0 (.slice none 0 0) (.slice none 0 0) → Below w.heap.size w W → Calls Tryz.prog 50 #[.pointer (some ⟨w.heap.size + 2, 0, none⟩), .pointer (some ⟨w.heap.size + 1, 0, none⟩)] W fun e w' => ∃ (y0 y1 y2 y4 y5 : Int) (vo : Value), e = .returned (.tuple #[]) ∧ Cur w' (w.heap.size + 1) (.slice (some ⟨b, off, none⟩) n cap) P .nilIface ∧ FRq w' (w.heap.size + 2) y0 y1 y2 y3 y4 y5 y6 y7 y8 vo (.slice none 0 0) ∧ Only [w.heap.size + 1, w.heap.size + 2] W w') :
    Calls Tryz.prog 13 #[.slice (some ⟨b, off, none⟩) n cap] w fun e w' => e = .returned (.tuple #[.agg #[.int .i64 0, .int .i64 0, .int .i64 0, .int .i64 0, .int .i64 0, .int .i64 0, .int .i64 0], .int .i64 2]) ∧ Below w.heap.size w w' := by
  have HS0 := hide (DS0.start w #[.int .i64 0, .int .i64 0, .int .i64 0, .int .i64 0, .int .i64 0, .int .i64 0, .int .i64 0] 39 (.slice (some ⟨b, off, none⟩) n cap))
  have hsz := size_two w (.cells #[.int .i64 0, .int .i64 0, .int .i64 0, .int .i64 0, .int .i64 0, .int .i64 0, .int .i64 0] 39) (.cells #[.slice (some ⟨b, off, none⟩) n cap, .int .i64 0, .nilIface] 65)
  have HT := hide hT
  clear hT
  obtain ⟨_, _, e0, hbl, _⟩ := ha.2 0 (by omega)
  cases e0
  have hbne : b ≠ w.heap.size + 1 := by omega
  have HA := hide ha
  have HN := hide hn
  clear ha hn
  have HY4 := hide hq4
  clear hq4
  have HE := hide he
  clear he
  have HF0 : Hid (FRq (((w.alloc (.cells #[.int .i64 0, .int .i64 0, .int .i64 0, .int .i64 0, .int .i64 0, .int .i64 0, .int .i64 0] 39)).alloc (.cells #[.slice (some ⟨b, off, none⟩) n cap, .int .i64 0, .nilIface] 65)).alloc (.cells #[.int .i64 0, .int .i64 0, .int .i64 0, .int .i64 0, .int .i64 0, .int .i64 0, .int .i64 0, .int .i64 0, .int .i64 0, .slice none 0 0] 75)) (w.heap.size + 2) 0 0 0 0 0 0 0 0 0 (.slice none 0 0) (.slice none 0 0)) := hide (by unfold FRq; rw [← hsz]; exact heap_alloc_new _ _)
  have HS1 := hide (HS0.out.next ((Below.refl _ _).alloc (Nat.le_refl _) (.cells #[.int .i64 0, .int .i64 0, .int .i64 0, .int .i64 0, .int .i64 0, .int .i64 0, .int .i64 0, .int .i64 0, .int .i64 0, .slice none 0 0] 75)))
  go_enter Tryz.func13, Tryz.ntmps13
  go_wp2_with fail
  generalize hW : (((w.alloc (.cells #[.int .i64 0, .int .i64 0, .int .i64 0, .int .i64 0, .int .i64 0, .int .i64 0, .int .i64 0] 39)).alloc (.cells #[.slice (some ⟨b, off, none⟩) n cap, .int .i64 0, .nilIface] 65)).alloc (.cells #[.int .i64 0, .int .i64 0, .int .i64 0, .int .i64 0, .int .i64 0, .int .i64 0, .int .i64 0, .int .i64 0, .int .i64 0, .slice none 0 0] 75)) = W at *
  clear hW HS0 hsz
  refine (HT.out W HS1.out.2.2 HF0.out HS1.out.1).mono ?_
  rintro e w1 ⟨y0, y1, y2, y4, y5, vo, rfl, hc, hf, ho⟩
  have HS2 := hide (HS1.out.only ho (by omega) hc)
  have HF2 := hide hf
  obtain ⟨f0, f1, f2, f3, f4, f5, f6, f7, f8, f9, _, ff⟩ := HF2.out.cells
  clear HT HS1 HF0 hc hf ho
  have HT0 := hide (DS1.start HS2.out #[.int .i64 y6, .int .i64 y7, .int .i64 y8, .int .i64 y3, .int .i64 0, .int .i64 0, .int .i64 0] 39)
  have hF : w.heap.size + 1 < w1.heap.size := HS2.out.2.2.lt
  clear HS2
  go_wp2_with fail
  generalize hV : w1.alloc (.cells #[.int .i64 y6, .int .i64 y7, .int .i64 y8, .int .i64 y3, .int .i64 0, .int .i64 0, .int .i64 0] 39) = V0 at *
  clear hV f0 f1 f2 f3 f4 f5 f6 f7 f8 f9 ff HF2
  generalize w1.heap.size = F at *
  have ct := tk2 (w.heap.size + 1) (P) n cap b off zs V0 HT0.out.1.2.2 hm (by omega) hcap HN.out (HA.out.below HT0.out.1.1 (Nat.le_refl _)) hbne
  rw [HY4.out] at ct
  have C := hide ct
  clear ct
  refine C.out.mono ?_
  rintro e V1 ⟨rfl, hc, hg⟩
  have HT1 : Hid (DS1 w V1 #[.int .i64 0, .int .i64 0, .int .i64 0, .int .i64 0, .int .i64 0, .int .i64 0, .int .i64 0] 39 (.slice (some ⟨b, off, none⟩) n cap) (P + 2) .nilIface F #[.int .i64 y6, .int .i64 y7, .int .i64 y8, .int .i64 y3, .int .i64 0, .int .i64 0, .int .i64 0] 39) := hide (HT0.out.moved hg hc)
  clear C hc hg HT0
  have k0 := HT1.out.2.1.cell 4 _ rfl
  have fz := HT1.out.2.1.frozen
  have HT2 : Hid (DS1 w (V1.setCell ⟨F, 4, none⟩ (.int .i64 q4)) #[.int .i64 0, .int .i64 0, .int .i64 0, .int .i64 0, .int .i64 0, .int .i64 0, .int .i64 0] 39 (.slice (some ⟨b, off, none⟩) n cap) (P + 2) .nilIface F #[.int .i64 y6, .int .i64 y7, .int .i64 y8, .int .i64 y3, .int .i64 q4, .int .i64 0, .int .i64 0] 39) := hide (HT1.out.set 4 (.int .i64 q4))
  go_wp2_with fail
  generalize V1.setCell ⟨F, 4, none⟩ (.int .i64 q4) = V2 at *
  clear k0 fz HT1
  have C := hide (take_no (w.heap.size + 1) (P + 2) n cap 2 _ V2 HT2.out.1.2.2 (by omega) (by omega) (by omega) (by omega))
  refine C.out.mono ?_
  rintro e V3 ⟨rfl, hc, hg⟩
  have HT3 : Hid (DS1 w V3 #[.int .i64 0, .int .i64 0, .int .i64 0, .int .i64 0, .int .i64 0, .int .i64 0, .int .i64 0] 39 (.slice (some ⟨b, off, none⟩) n cap) (P + 2) (wErr 2) F #[.int .i64 y6, .int .i64 y7, .int .i64 y8, .int .i64 y3, .int .i64 q4, .int .i64 0, .int .i64 0] 39) := hide (HT2.out.moved hg hc)
  clear C hc hg HT2
  have k0 := HT3.out.2.1.cell 5 _ rfl
  have fz := HT3.out.2.1.frozen
  have HT4 : Hid (DS1 w (V3.setCell ⟨F, 5, none⟩ (.int .i64 0)) #[.int .i64 0, .int .i64 0, .int .i64 0, .int .i64 0, .int .i64 0, .int .i64 0, .int .i64 0] 39 (.slice (some ⟨b, off, none⟩) n cap) (P + 2) (wErr 2) F #[.int .i64 y6, .int .i64 y7, .int .i64 y8, .int .i64 y3, .int .i64 q4, .int .i64 0, .int .i64 0] 39) := hide (HT3.out.set 5 (.int .i64 0))
  go_wp2_with fail
  generalize V3.setCell ⟨F, 5, none⟩ (.int .i64 0) = V4 at *
  clear k0 fz HT3
  have C := hide (take_err (w.heap.size + 1) (P + 2) n cap _ 2 4 V4 HT4.out.1.2.2 (by omega) (by omega) (by omega) (by omega))
  refine C.out.mono ?_
  rintro e w' ⟨rfl, mm, rfl⟩
  have HT5 : Hid (DS1 w (V4.drewN mm) #[.int .i64 0, .int .i64 0, .int .i64 0, .int .i64 0, .int .i64 0, .int .i64 0, .int .i64 0] 39 (.slice (some ⟨b, off, none⟩) n cap) (P + 2) (wErr 2) F #[.int .i64 y6, .int .i64 y7, .int .i64 y8, .int .i64 y3, .int .i64 q4, .int .i64 0, .int .i64 0] 39) := hide (HT4.out.drewN mm)
  generalize V4.drewN mm = V5 at *
  clear C HT4
  have k0 := HT5.out.2.1.cell 6 _ rfl
  have fz := HT5.out.2.1.frozen
  have HT6 : Hid (DS1 w (V5.setCell ⟨F, 6, none⟩ (.int .i64 0)) #[.int .i64 0, .int .i64 0, .int .i64 0, .int .i64 0, .int .i64 0, .int .i64 0, .int .i64 0] 39 (.slice (some ⟨b, off, none⟩) n cap) (P + 2) (wErr 2) F #[.int .i64 y6, .int .i64 y7, .int .i64 y8, .int .i64 y3, .int .i64 q4, .int .i64 0, .int .i64 0] 39) := hide (HT5.out.set 6 (.int .i64 0))
  go_wp2_with fail
  generalize V5.setCell ⟨F, 6, none⟩ (.int .i64 0) = V6 at *
  clear k0 fz HT5
  have HTD := hide (HT6.out.drew)
  have HE7 := hide (HE.out.below HTD.out.1.1 (Nat.le_refl _))
  clear HE
  have CA := hide (ansQuote_err (y6) (y7) (y8) (y3) (q4) (0) (0) 2 (by decide) V6.drew HE7.out)
  have HK : Hid (V6.drew.cell? ⟨F, 0, none⟩ = some (.int .i64 y6) ∧ V6.drew.cell? ⟨F, 1, none⟩ = some (.int .i64 y7) ∧ V6.drew.cell? ⟨F, 2, none⟩ = some (.int .i64 y8) ∧ V6.drew.cell? ⟨F, 3, none⟩ = some (.int .i64 y3) ∧ V6.drew.cell? ⟨F, 4, none⟩ = some (.int .i64 q4) ∧ V6.drew.cell? ⟨F, 5, none⟩ = some (.int .i64 0) ∧ V6.drew.cell? ⟨F, 6, none⟩ = some (.int .i64 0) ∧ V6.drew.cell? ⟨w.heap.size + 1, 2, none⟩ = some (wErr 2)) := hide ⟨HTD.out.2.1.cell 0 _ rfl, HTD.out.2.1.cell 1 _ rfl, HTD.out.2.1.cell 2 _ rfl, HTD.out.2.1.cell 3 _ rfl, HTD.out.2.1.cell 4 _ rfl, HTD.out.2.1.cell 5 _ rfl, HTD.out.2.1.cell 6 _ rfl, HTD.out.1.2.2.cells.2.2.1⟩
  have hRF : w.heap.size ≠ F := by omega
  have hRC : w.heap.size ≠ w.heap.size + 1 := by omega
  clear HT6 HE7
  go_region_held3 (fun w' => w'.cell? ⟨F, 0, none⟩ = some (.int .i64 y6) ∧ w'.cell? ⟨F, 1, none⟩ = some (.int .i64 y7) ∧ w'.cell? ⟨F, 2, none⟩ = some (.int .i64 y8) ∧ w'.cell? ⟨F, 3, none⟩ = some (.int .i64 y3) ∧ w'.cell? ⟨F, 4, none⟩ = some (.int .i64 q4) ∧ w'.cell? ⟨F, 5, none⟩ = some (.int .i64 0) ∧ w'.cell? ⟨F, 6, none⟩ = some (.int .i64 0) ∧ w'.cell? ⟨w.heap.size + 1, 2, none⟩ = some (wErr 2)) (first | with_reducible assumption | with_reducible exact HK.out | exact ⟨far7 hRF hk9.1, far7 hRF hk9.2.1, far7 hRF hk9.2.2.1, far7 hRF hk9.2.2.2.1, far7 hRF hk9.2.2.2.2.1, far7 hRF hk9.2.2.2.2.2.1, far7 hRF hk9.2.2.2.2.2.2.1, far7 hRC hk9.2.2.2.2.2.2.2⟩)
    ((go_at_call 51; refine CA.out.mono ?_; rintro e w8 ⟨rfl, hb8⟩; have hk9 : w8.cell? ⟨F, 0, none⟩ = some (.int .i64 y6) ∧ w8.cell? ⟨F, 1, none⟩ = some (.int .i64 y7) ∧ w8.cell? ⟨F, 2, none⟩ = some (.int .i64 y8) ∧ w8.cell? ⟨F, 3, none⟩ = some (.int .i64 y3) ∧ w8.cell? ⟨F, 4, none⟩ = some (.int .i64 q4) ∧ w8.cell? ⟨F, 5, none⟩ = some (.int .i64 0) ∧ w8.cell? ⟨F, 6, none⟩ = some (.int .i64 0) ∧ w8.cell? ⟨w.heap.size + 1, 2, none⟩ = some (wErr 2) := ⟨(HTD.out.next hb8).2.1.cell 0 _ rfl, (HTD.out.next hb8).2.1.cell 1 _ rfl, (HTD.out.next hb8).2.1.cell 2 _ rfl, (HTD.out.next hb8).2.1.cell 3 _ rfl, (HTD.out.next hb8).2.1.cell 4 _ rfl, (HTD.out.next hb8).2.1.cell 5 _ rfl, (HTD.out.next hb8).2.1.cell 6 _ rfl, (HTD.out.next hb8).1.2.2.cells.2.2.1⟩; have d0 := (HTD.out.next hb8).1.2.1.cell 0 _ rfl; have d1 := (HTD.out.next hb8).1.2.1.cell 1 _ rfl; have d2 := (HTD.out.next hb8).1.2.1.cell 2 _ rfl; have d3 := (HTD.out.next hb8).1.2.1.cell 3 _ rfl; have d4 := (HTD.out.next hb8).1.2.1.cell 4 _ rfl; have d5 := (HTD.out.next hb8).1.2.1.cell 5 _ rfl; have d6 := (HTD.out.next hb8).1.2.1.cell 6 _ rfl; have fz := (HTD.out.next hb8).1.2.1.frozen))
  all_goals
    have HT9 := hide (HTD.out.next hb8)
    clear hb8 HTD CA HK hk9
    go_wp2_with fail
    exact bodyPost_ret (v := .tuple #[.agg #[.int .i64 0, .int .i64 0, .int .i64 0, .int .i64 0, .int .i64 0, .int .i64 0, .int .i64 0], .int .i64 2]) (by simp [results, Tryz.results13, go_sem, d0, d1, d2, d3, d4, d5, d6]) rfl ⟨rfl, (((((((HT9.out.1.1.setCell (p := ⟨w.heap.size, 0, none⟩) (Nat.le_refl _) _).setCell (p := ⟨w.heap.size, 1, none⟩) (Nat.le_refl _) _).setCell (p := ⟨w.heap.size, 2, none⟩) (Nat.le_refl _) _).setCell (p := ⟨w.heap.size, 3, none⟩) (Nat.le_refl _) _).setCell (p := ⟨w.heap.size, 4, none⟩) (Nat.le_refl _) _).setCell (p := ⟨w.heap.size, 5, none⟩) (Nat.le_refl _) _).setCell (p := ⟨w.heap.size, 6, none⟩) (Nat.le_refl _) _)⟩
set_option maxHeartbeats 8000000 in
theorem implQuote_s3 (b off n cap : Nat) (zs : List Int) (y3 y6 y7 y8 : Int) (w : World) (hm : n ≤ 1048576) (hn : zs.length = n) (ha : Arr w (some ⟨b, off, none⟩) zs) (hcap : n ≤ cap) (h0 : 0 < n) (P : Nat) (hP : P ≤ n) (he : ErrT w) (h1 : P + 4 ≤ n) (h : n < P + 4 + 4) (q4 : Int) (hq4 : tnum ((zs.drop P).take 2) = q4) (q5 : Int) (hq5 : tnum ((zs.drop (P + 2)).take 2) = q5)
    (hT : ∀ W, Cur W (w.heap.size + 1) (.slice (some ⟨b, off, none⟩) n cap) 0 .nilIface → FRq W (w.heap.size + 2) 0 0 0 0 0 0 0 0 0 (.slice none 0 0) (.slice none 0 0) → Below w.heap.size w W → Calls Tryz.prog 50 #[.pointer (some ⟨w.heap.size + 2, 0, none⟩), .pointer (some ⟨w.heap.size + 1, 0, none⟩)] W fun e w' => ∃ (y0 y1 y2 y4 y5 : Int) (vo : Value), e = .returned (.tuple #[]) ∧ Cur w' (w.heap.size + 1) (.slice (some ⟨b, off, none⟩) n cap) P .nilIface ∧ FRq w' (w.heap.size + 2) y0 y1 y2 y3 y4 y5 y6 y7 y8 vo (.slice none 0 0) ∧ Only [w.heap.size + 1, w.heap.size + 2] W w') :
    Calls Tryz.prog 13 #[.slice (some ⟨b, off, none⟩) n cap] w fun e w' => e = .returned (.tuple #[.agg #[.int .i64 0, .int .i64 0, .int .i64 0, .int .i64 0, .int .i64 0, .int .i64 0, .int .i64 0], .int .i64 2]) ∧ Below w.heap.size w w' := by
  have HS0 := hide (DS0.start w #[.int .i64 0, .int .i64 0, .int .i64 0, .int .i64 0, .int .i64 0, .int .i64 0, .int .i64 0] 39 (.slice (some ⟨b, off, none⟩) n cap))
  have hsz := size_two w (.cells #[.int .i64 0, .int .i64 0, .int .i64 0, .int .i64 0, .int .i64 0, .int .i64 0, .int .i64 0] 39) (.cells #[.slice (some ⟨b, off, none⟩) n cap, .int .i64 0, .nilIface] 65)
  have HT := hide hT
  clear hT
  obtain ⟨_, _, e0, hbl, _⟩ := ha.2 0 (by omega)
  cases e0
  have hbne : b ≠ w.heap.size + 1 := by omega
  have HA := hide ha
  have HN := hide hn
  clear ha hn
  have HY4 := hide hq4
  have HY5 := hide hq5
  clear hq4 hq5
  have HE := hide he
  clear he
  have HF0 : Hid (FRq (((w.alloc (.cells #[.int .i64 0, .int .i64 0, .int .i64 0, .int .i64 0, .int .i64 0, .int .i64 0, .int .i64 0] 39)).alloc (.cells #[.slice (some ⟨b, off, none⟩) n cap, .int .i64 0, .nilIface] 65)).alloc (.cells #[.int .i64 0, .int .i64 0, .int .i64 0, .int .i64 0, .int .i64 0, .int .i64 0, .int .i64 0, .int .i64 0, .int .i64 0, .slice none 0 0] 75)) (w.heap.size + 2) 0 0 0 0 0 0 0 0 0 (.slice none 0 0) (.slice none 0 0)) := hide (by unfold FRq; rw [← hsz]; exact heap_alloc_new _ _)
  have HS1 := hide (HS0.out.next ((Below.refl _ _).alloc (Nat.le_refl _) (.cells #[.int .i64 0, .int .i64 0, .int .i64 0, .int .i64 0, .int .i64 0, .int .i64 0, .int .i64 0, .int .i64 0, .int .i64 0, .slice none 0 0] 75)))
  go_enter Tryz.func13, Tryz.ntmps13
  go_wp2_with fail
  generalize hW : (((w.alloc (.cells #[.int .i64 0, .int .i64 0, .int .i64 0, .int .i64 0, .int .i64 0, .int .i64 0, .int .i64 0] 39)).alloc (.cells #[.slice (some ⟨b, off, none⟩) n cap, .int .i64 0, .nilIface] 65)).alloc (.cells #[.int .i64 0, .int .i64 0, .int .i64 0, .int .i64 0, .int .i64 0, .int .i64 0, .int .i64 0, .int .i64 0, .int .i64 0, .slice none 0 0] 75)) = W at *
  clear hW HS0 hsz
  refine (HT.out W HS1.out.2.2 HF0.out HS1.out.1).mono ?_
  rintro e w1 ⟨y0, y1, y2, y4, y5, vo, rfl, hc, hf, ho⟩
  have HS2 := hide (HS1.out.only ho (by omega) hc)
  have HF2 := hide hf
  obtain ⟨f0, f1, f2, f3, f4, f5, f6, f7, f8, f9, _, ff⟩ := HF2.out.cells
  clear HT HS1 HF0 hc hf ho
  have HT0 := hide (DS1.start HS2.out #[.int .i64 y6, .int .i64 y7, .int .i64 y8, .int .i64 y3, .int .i64 0, .int .i64 0, .int .i64 0] 39)
  have hF : w.heap.size + 1 < w1.heap.size := HS2.out.2.2.lt
  clear HS2
  go_wp2_with fail
  generalize hV : w1.alloc (.cells #[.int .i64 y6, .int .i64 y7, .int .i64 y8, .int .i64 y3, .int .i64 0, .int .i64 0, .int .i64 0] 39) = V0 at *
  clear hV f0 f1 f2 f3 f4 f5 f6 f7 f8 f9 ff HF2
  generalize w1.heap.size = F at *
  have ct := tk2 (w.heap.size + 1) (P) n cap b off zs V0 HT0.out.1.2.2 hm (by omega) hcap HN.out (HA.out.below HT0.out.1.1 (Nat.le_refl _)) hbne
  rw [HY4.out] at ct
  have C := hide ct
  clear ct
  refine C.out.mono ?_
  rintro e V1 ⟨rfl, hc, hg⟩
  have HT1 : Hid (DS1 w V1 #[.int .i64 0, .int .i64 0, .int .i64 0, .int .i64 0, .int .i64 0, .int .i64 0, .int .i64 0] 39 (.slice (some ⟨b, off, none⟩) n cap) (P + 2) .nilIface F #[.int .i64 y6, .int .i64 y7, .int .i64 y8, .int .i64 y3, .int .i64 0, .int .i64 0, .int .i64 0] 39) := hide (HT0.out.moved hg hc)
  clear C hc hg HT0
  have k0 := HT1.out.2.1.cell 4 _ rfl
  have fz := HT1.out.2.1.frozen
  have HT2 : Hid (DS1 w (V1.setCell ⟨F, 4, none⟩ (.int .i64 q4)) #[.int .i64 0, .int .i64 0, .int .i64 0, .int .i64 0, .int .i64 0, .int .i64 0, .int .i64 0] 39 (.slice (some ⟨b, off, none⟩) n cap) (P + 2) .nilIface F #[.int .i64 y6, .int .i64 y7, .int .i64 y8, .int .i64 y3, .int .i64 q4, .int .i64 0, .int .i64 0] 39) := hide (HT1.out.set 4 (.int .i64 q4))
  go_wp2_with fail
  generalize V1.setCell ⟨F, 4, none⟩ (.int .i64 q4) = V2 at *
  clear k0 fz HT1
  have ct := tk2 (w.heap.size + 1) (P + 2) n cap b off zs V2 HT2.out.1.2.2 hm (by omega) hcap HN.out (HA.out.below HT2.out.1.1 (Nat.le_refl _)) hbne
  rw [HY5.out] at ct
  have C := hide ct
  clear ct
  refine C.out.mono ?_
  rintro e V3 ⟨rfl, hc, hg⟩
  have HT3 : Hid (DS1 w V3 #[.int .i64 0, .int .i64 0, .int .i64 0, .int .i64 0, .int .i64 0, .int .i64 0, .int .i64 0] 39 (.slice (some ⟨b, off, none⟩) n cap) (P + 4) .nilIface F #[.int .i64 y6, .int .i64 y7, .int .i64 y8, .int .i64 y3, .int .i64 q4, .int .i64 0, .int .i64 0] 39) := hide (HT2.out.moved hg hc)
  clear C hc hg HT2
  have k0 := HT3.out.2.1.cell 5 _ rfl
  have fz := HT3.out.2.1.frozen
  have HT4 : Hid (DS1 w (V3.setCell ⟨F, 5, none⟩ (.int .i64 q5)) #[.int .i64 0, .int .i64 0, .int .i64 0, .int .i64 0, .int .i64 0, .int .i64 0, .int .i64 0] 39 (.slice (some ⟨b, off, none⟩) n cap) (P + 4) .nilIface F #[.int .i64 y6, .int .i64 y7, .int .i64 y8, .int .i64 y3, .int .i64 q4, .int .i64 q5, .int .i64 0] 39) := hide (HT3.out.set 5 (.int .i64 q5))
  go_wp2_with fail
  generalize V3.setCell ⟨F, 5, none⟩ (.int .i64 q5) = V4 at *
  clear k0 fz HT3
  have C := hide (take_no (w.heap.size + 1) (P + 4) n cap 4 _ V4 HT4.out.1.2.2 (by omega) (by omega) (by omega) (by omega))
  refine C.out.mono ?_
  rintro e V5 ⟨rfl, hc, hg⟩
  have HT5 : Hid (DS1 w V5 #[.int .i64 0, .int .i64 0, .int .i64 0, .int .i64 0, .int .i64 0, .int .i64 0, .int .i64 0] 39 (.slice (some ⟨b, off, none⟩) n cap) (P + 4) (wErr 2) F #[.int .i64 y6, .int .i64 y7, .int .i64 y8, .int .i64 y3, .int .i64 q4, .int .i64 q5, .int .i64 0] 39) := hide (HT4.out.moved hg hc)
  clear C hc hg HT4
  have k0 := HT5.out.2.1.cell 6 _ rfl
  have fz := HT5.out.2.1.frozen
  have HT6 : Hid (DS1 w (V5.setCell ⟨F, 6, none⟩ (.int .i64 0)) #[.int .i64 0, .int .i64 0, .int .i64 0, .int .i64 0, .int .i64 0, .int .i64 0, .int .i64 0] 39 (.slice (some ⟨b, off, none⟩) n cap) (P + 4) (wErr 2) F #[.int .i64 y6, .int .i64 y7, .int .i64 y8, .int .i64 y3, .int .i64 q4, .int .i64 q5, .int .i64 0] 39) := hide (HT5.out.set 6 (.int .i64 0))
  go_wp2_with fail
  generalize V5.setCell ⟨F, 6, none⟩ (.int .i64 0) = V6 at *
  clear k0 fz HT5
  have HTD := hide (HT6.out.drew)
  have HE7 := hide (HE.out.below HTD.out.1.1 (Nat.le_refl _))
  clear HE
  have CA := hide (ansQuote_err (y6) (y7) (y8) (y3) (q4) (q5) (0) 2 (by decide) V6.drew HE7.out)
  have HK : Hid (V6.drew.cell? ⟨F, 0, none⟩ = some (.int .i64 y6) ∧ V6.drew.cell? ⟨F, 1, none⟩ = some (.int .i64 y7) ∧ V6.drew.cell? ⟨F, 2, none⟩ = some (.int .i64 y8) ∧ V6.drew.cell? ⟨F, 3, none⟩ = some (.int .i64 y3) ∧ V6.drew.cell? ⟨F, 4, none⟩ = some (.int .i64 q4) ∧ V6.drew.cell? ⟨F, 5, none⟩ = some (.int .i64 q5) ∧ V6.drew.cell? ⟨F, 6, none⟩ = some (.int .i64 0) ∧ V6.drew.cell? ⟨w.heap.size + 1, 2, none⟩ = some (wErr 2)) := hide ⟨HTD.out.2.1.cell 0 _ rfl, HTD.out.2.1.cell 1 _ rfl, HTD.out.2.1.cell 2 _ rfl, HTD.out.2.1.cell 3 _ rfl, HTD.out.2.1.cell 4 _ rfl, HTD.out.2.1.cell 5 _ rfl, HTD.out.2.1.cell 6 _ rfl, HTD.out.1.2.2.cells.2.2.1⟩
  have hRF : w.heap.size ≠ F := by omega
  have hRC : w.heap.size ≠ w.heap.size + 1 := by omega
  clear HT6 HE7
  go_region_held3 (fun w' => w'.cell? ⟨F, 0, none⟩ = some (.int .i64 y6) ∧ w'.cell? ⟨F, 1, none⟩ = some (.int .i64 y7) ∧ w'.cell? ⟨F, 2, none⟩ = some (.int .i64 y8) ∧ w'.cell? ⟨F, 3, none⟩ = some (.int .i64 y3) ∧ w'.cell? ⟨F, 4, none⟩ = some (.int .i64 q4) ∧ w'.cell? ⟨F, 5, none⟩ = some (.int .i64 q5) ∧ w'.cell? ⟨F, 6, none⟩ = some (.int .i64 0) ∧ w'.cell? ⟨w.heap.size + 1, 2, none⟩ = some (wErr 2)) (first | with_reducible assumption | with_reducible exact HK.out | exact ⟨far7 hRF hk9.1, far7 hRF hk9.2.1, far7 hRF hk9.2.2.1, far7 hRF hk9.2.2.2.1, far7 hRF hk9.2.2.2.2.1, far7 hRF hk9.2.2.2.2.2.1, far7 hRF hk9.2.2.2.2.2.2.1, far7 hRC hk9.2.2.2.2.2.2.2⟩)
    ((go_at_call 51; refine CA.out.mono ?_; rintro e w8 ⟨rfl, hb8⟩; have hk9 : w8.cell? ⟨F, 0, none⟩ = some (.int .i64 y6) ∧ w8.cell? ⟨F, 1, none⟩ = some (.int .i64 y7) ∧ w8.cell? ⟨F, 2, none⟩ = some (.int .i64 y8) ∧ w8.cell? ⟨F, 3, none⟩ = some (.int .i64 y3) ∧ w8.cell? ⟨F, 4, none⟩ = some (.int .i64 q4) ∧ w8.cell? ⟨F, 5, none⟩ = some (.int .i64 q5) ∧ w8.cell? ⟨F, 6, none⟩ = some (.int .i64 0) ∧ w8.cell? ⟨w.heap.size + 1, 2, none⟩ = some (wErr 2) := ⟨(HTD.out.next hb8).2.1.cell 0 _ rfl, (HTD.out.next hb8).2.1.cell 1 _ rfl, (HTD.out.next hb8).2.1.cell 2 _ rfl, (HTD.out.next hb8).2.1.cell 3 _ rfl, (HTD.out.next hb8).2.1.cell 4 _ rfl, (HTD.out.next hb8).2.1.cell 5 _ rfl, (HTD.out.next hb8).2.1.cell 6 _ rfl, (HTD.out.next hb8).1.2.2.cells.2.2.1⟩; have d0 := (HTD.out.next hb8).1.2.1.cell 0 _ rfl; have d1 := (HTD.out.next hb8).1.2.1.cell 1 _ rfl; have d2 := (HTD.out.next hb8).1.2.1.cell 2 _ rfl; have d3 := (HTD.out.next hb8).1.2.1.cell 3 _ rfl; have d4 := (HTD.out.next hb8).1.2.1.cell 4 _ rfl; have d5 := (HTD.out.next hb8).1.2.1.cell 5 _ rfl; have d6 := (HTD.out.next hb8).1.2.1.cell 6 _ rfl; have fz := (HTD.out.next hb8).1.2.1.frozen))
  all_goals
    have HT9 := hide (HTD.out.next hb8)
    clear hb8 HTD CA HK hk9
    go_wp2_with fail
    exact bodyPost_ret (v := .tuple #[.agg #[.int .i64 0, .int .i64 0, .int .i64 0, .int .i64 0, .int .i64 0, .int .i64 0, .int .i64 0], .int .i64 2]) (by simp [results, Tryz.results13, go_sem, d0, d1, d2, d3, d4, d5, d6]) rfl ⟨rfl, (((((((HT9.out.1.1.setCell (p := ⟨w.heap.size, 0, none⟩) (Nat.le_refl _) _).setCell (p := ⟨w.heap.size, 1, none⟩) (Nat.le_refl _) _).setCell (p := ⟨w.heap.size, 2, none⟩) (Nat.le_refl _) _).setCell (p := ⟨w.heap.size, 3, none⟩) (Nat.le_refl _) _).setCell (p := ⟨w.heap.size, 4, none⟩) (Nat.le_refl _) _).setCell (p := ⟨w.heap.size, 5, none⟩) (Nat.le_refl _) _).setCell (p := ⟨w.heap.size, 6, none⟩) (Nat.le_refl _) _)⟩
set_option maxHeartbeats 8000000 in
theorem implQuote_ok (b off n cap : Nat) (zs : List Int) (y3 y6 y7 y8 : Int) (w : World) (hm : n ≤ 1048576) (hn : zs.length = n) (ha : Arr w (some ⟨b, off, none⟩) zs) (hcap : n ≤ cap) (h0 : 0 < n) (P : Nat) (hP : P ≤ n) (h1 : P + 8 ≤ n) (q4 : Int) (hq4 : tnum ((zs.drop P).take 2) = q4) (q5 : Int) (hq5 : tnum ((zs.drop (P + 2)).take 2) = q5) (q6 : Int) (hq6 : tnum ((zs.drop (P + 4)).take 4) = q6)
    (hT : ∀ W, Cur W (w.heap.size + 1) (.slice (some ⟨b, off, none⟩) n cap) 0 .nilIface → FRq W (w.heap.size + 2) 0 0 0 0 0 0 0 0 0 (.slice none 0 0) (.slice none 0 0) → Below w.heap.size w W → Calls Tryz.prog 50 #[.pointer (some ⟨w.heap.size + 2, 0, none⟩), .pointer (some ⟨w.heap.size + 1, 0, none⟩)] W fun e w' => ∃ (y0 y1 y2 y4 y5 : Int) (vo : Value), e = .returned (.tuple #[]) ∧ Cur w' (w.heap.size + 1) (.slice (some ⟨b, off, none⟩) n cap) P .nilIface ∧ FRq w' (w.heap.size + 2) y0 y1 y2 y3 y4 y5 y6 y7 y8 vo (.slice none 0 0) ∧ Only [w.heap.size + 1, w.heap.size + 2] W w') :
    Calls Tryz.prog 13 #[.slice (some ⟨b, off, none⟩) n cap] w fun e w' => e = .returned (.tuple #[.agg #[.int .i64 y6, .int .i64 y7, .int .i64 y8, .int .i64 y3, .int .i64 q4, .int .i64 q5, .int .i64 q6], .int .i64 0]) ∧ Below w.heap.size w w' := by
  have HS0 := hide (DS0.start w #[.int .i64 0, .int .i64 0, .int .i64 0, .int .i64 0, .int .i64 0, .int .i64 0, .int .i64 0] 39 (.slice (some ⟨b, off, none⟩) n cap))
  have hsz := size_two w (.cells #[.int .i64 0, .int .i64 0, .int .i64 0, .int .i64 0, .int .i64 0, .int .i64 0, .int .i64 0] 39) (.cells #[.slice (some ⟨b, off, none⟩) n cap, .int .i64 0, .nilIface] 65)
  have HT := hide hT
  clear hT
  obtain ⟨_, _, e0, hbl, _⟩ := ha.2 0 (by omega)
  cases e0
  have hbne : b ≠ w.heap.size + 1 := by omega
  have HA := hide ha
  have HN := hide hn
  clear ha hn
  have HY4 := hide hq4
  have HY5 := hide hq5
  have HY6 := hide hq6
  clear hq4 hq5 hq6
  have HF0 : Hid (FRq (((w.alloc (.cells #[.int .i64 0, .int .i64 0, .int .i64 0, .int .i64 0, .int .i64 0, .int .i64 0, .int .i64 0] 39)).alloc (.cells #[.slice (some ⟨b, off, none⟩) n cap, .int .i64 0, .nilIface] 65)).alloc (.cells #[.int .i64 0, .int .i64 0, .int .i64 0, .int .i64 0, .int .i64 0, .int .i64 0, .int .i64 0, .int .i64 0, .int .i64 0, .slice none 0 0] 75)) (w.heap.size + 2) 0 0 0 0 0 0 0 0 0 (.slice none 0 0) (.slice none 0 0)) := hide (by unfold FRq; rw [← hsz]; exact heap_alloc_new _ _)
  have HS1 := hide (HS0.out.next ((Below.refl _ _).alloc (Nat.le_refl _) (.cells #[.int .i64 0, .int .i64 0, .int .i64 0, .int .i64 0, .int .i64 0, .int .i64 0, .int .i64 0, .int .i64 0, .int .i64 0, .slice none 0 0] 75)))
  go_enter Tryz.func13, Tryz.ntmps13
  go_wp2_with fail
  generalize hW : (((w.alloc (.cells #[.int .i64 0, .int .i64 0, .int .i64 0, .int .i64 0, .int .i64 0, .int .i64 0, .int .i64 0] 39)).alloc (.cells #[.slice (some ⟨b, off, none⟩) n cap, .int .i64 0, .nilIface] 65)).alloc (.cells #[.int .i64 0, .int .i64 0, .int .i64 0, .int .i64 0, .int .i64 0, .int .i64 0, .int .i64 0, .int .i64 0, .int .i64 0, .slice none 0 0] 75)) = W at *
  clear hW HS0 hsz
  refine (HT.out W HS1.out.2.2 HF0.out HS1.out.1).mono ?_
  rintro e w1 ⟨y0, y1, y2, y4, y5, vo, rfl, hc, hf, ho⟩
  have HS2 := hide (HS1.out.only ho (by omega) hc)
  have HF2 := hide hf
  obtain ⟨f0, f1, f2, f3, f4, f5, f6, f7, f8, f9, _, ff⟩ := HF2.out.cells
  clear HT HS1 HF0 hc hf ho
  have HT0 := hide (DS1.start HS2.out #[.int .i64 y6, .int .i64 y7, .int .i64 y8, .int .i64 y3, .int .i64 0, .int .i64 0, .int .i64 0] 39)
  have hF : w.heap.size + 1 < w1.heap.size := HS2.out.2.2.lt
  clear HS2
  go_wp2_with fail
  generalize hV : w1.alloc (.cells #[.int .i64 y6, .int .i64 y7, .int .i64 y8, .int .i64 y3, .int .i64 0, .int .i64 0, .int .i64 0] 39) = V0 at *
  clear hV f0 f1 f2 f3 f4 f5 f6 f7 f8 f9 ff HF2
  generalize w1.heap.size = F at *
  have ct := tk2 (w.heap.size + 1) (P) n cap b off zs V0 HT0.out.1.2.2 hm (by omega) hcap HN.out (HA.out.below HT0.out.1.1 (Nat.le_refl _)) hbne
  rw [HY4.out] at ct
  have C := hide ct
  clear ct
  refine C.out.mono ?_
  rintro e V1 ⟨rfl, hc, hg⟩
  have HT1 : Hid (DS1 w V1 #[.int .i64 0, .int .i64 0, .int .i64 0, .int .i64 0, .int .i64 0, .int .i64 0, .int .i64 0] 39 (.slice (some ⟨b, off, none⟩) n cap) (P + 2) .nilIface F #[.int .i64 y6, .int .i64 y7, .int .i64 y8, .int .i64 y3, .int .i64 0, .int .i64 0, .int .i64 0] 39) := hide (HT0.out.moved hg hc)
  clear C hc hg HT0
  have k0 := HT1.out.2.1.cell 4 _ rfl
  have fz := HT1.out.2.1.frozen
  have HT2 : Hid (DS1 w (V1.setCell ⟨F, 4, none⟩ (.int .i64 q4)) #[.int .i64 0, .int .i64 0, .int .i64 0, .int .i64 0, .int .i64 0, .int .i64 0, .int .i64 0] 39 (.slice (some ⟨b, off, none⟩) n cap) (P + 2) .nilIface F #[.int .i64 y6, .int .i64 y7, .int .i64 y8, .int .i64 y3, .int .i64 q4, .int .i64 0, .int .i64 0] 39) := hide (HT1.out.set 4 (.int .i64 q4))
  go_wp2_with fail
  generalize V1.setCell ⟨F, 4, none⟩ (.int .i64 q4) = V2 at *
  clear k0 fz HT1
  have ct := tk2 (w.heap.size + 1) (P + 2) n cap b off zs V2 HT2.out.1.2.2 hm (by omega) hcap HN.out (HA.out.below HT2.out.1.1 (Nat.le_refl _)) hbne
  rw [HY5.out] at ct
  have C := hide ct
  clear ct
  refine C.out.mono ?_
  rintro e V3 ⟨rfl, hc, hg⟩
  have HT3 : Hid (DS1 w V3 #[.int .i64 0, .int .i64 0, .int .i64 0, .int .i64 0, .int .i64 0, .int .i64 0, .int .i64 0] 39 (.slice (some ⟨b, off, none⟩) n cap) (P + 4) .nilIface F #[.int .i64 y6, .int .i64 y7, .int .i64 y8, .int .i64 y3, .int .i64 q4, .int .i64 0, .int .i64 0] 39) := hide (HT2.out.moved hg hc)
  clear C hc hg HT2
  have k0 := HT3.out.2.1.cell 5 _ rfl
  have fz := HT3.out.2.1.frozen
  have HT4 : Hid (DS1 w (V3.setCell ⟨F, 5, none⟩ (.int .i64 q5)) #[.int .i64 0, .int .i64 0, .int .i64 0, .int .i64 0, .int .i64 0, .int .i64 0, .int .i64 0] 39 (.slice (some ⟨b, off, none⟩) n cap) (P + 4) .nilIface F #[.int .i64 y6, .int .i64 y7, .int .i64 y8, .int .i64 y3, .int .i64 q4, .int .i64 q5, .int .i64 0] 39) := hide (HT3.out.set 5 (.int .i64 q5))
  go_wp2_with fail
  generalize V3.setCell ⟨F, 5, none⟩ (.int .i64 q5) = V4 at *
  clear k0 fz HT3
  have ct := tk4 (w.heap.size + 1) (P + 4) n cap b off zs V4 HT4.out.1.2.2 hm (by omega) hcap HN.out (HA.out.below HT4.out.1.1 (Nat.le_refl _)) hbne
  rw [HY6.out] at ct
  have C := hide ct
  clear ct
  refine C.out.mono ?_
  rintro e V5 ⟨rfl, hc, hg⟩
  have HT5 : Hid (DS1 w V5 #[.int .i64 0, .int .i64 0, .int .i64 0, .int .i64 0, .int .i64 0, .int .i64 0, .int .i64 0] 39 (.slice (some ⟨b, off, none⟩) n cap) (P + 8) .nilIface F #[.int .i64 y6, .int .i64 y7, .int .i64 y8, .int .i64 y3, .int .i64 q4, .int .i64 q5, .int .i64 0] 39) := hide (HT4.out.moved hg hc)
  clear C hc hg HT4
  have k0 := HT5.out.2.1.cell 6 _ rfl
  have fz := HT5.out.2.1.frozen
  have HT6 : Hid (DS1 w (V5.setCell ⟨F, 6, none⟩ (.int .i64 q6)) #[.int .i64 0, .int .i64 0, .int .i64 0, .int .i64 0, .int .i64 0, .int .i64 0, .int .i64 0] 39 (.slice (some ⟨b, off, none⟩) n cap) (P + 8) .nilIface F #[.int .i64 y6, .int .i64 y7, .int .i64 y8, .int .i64 y3, .int .i64 q4, .int .i64 q5, .int .i64 q6] 39) := hide (HT5.out.set 6 (.int .i64 q6))
  go_wp2_with fail
  generalize V5.setCell ⟨F, 6, none⟩ (.int .i64 q6) = V6 at *
  clear k0 fz HT5
  have HTD := hide (HT6.out.drew)
  have CA := hide (ansQuote_nil (y6) (y7) (y8) (y3) (q4) (q5) (q6) V6.drew)
  have HK : Hid (V6.drew.cell? ⟨F, 0, none⟩ = some (.int .i64 y6) ∧ V6.drew.cell? ⟨F, 1, none⟩ = some (.int .i64 y7) ∧ V6.drew.cell? ⟨F, 2, none⟩ = some (.int .i64 y8) ∧ V6.drew.cell? ⟨F, 3, none⟩ = some (.int .i64 y3) ∧ V6.drew.cell? ⟨F, 4, none⟩ = some (.int .i64 q4) ∧ V6.drew.cell? ⟨F, 5, none⟩ = some (.int .i64 q5) ∧ V6.drew.cell? ⟨F, 6, none⟩ = some (.int .i64 q6) ∧ V6.drew.cell? ⟨w.heap.size + 1, 2, none⟩ = some .nilIface) := hide ⟨HTD.out.2.1.cell 0 _ rfl, HTD.out.2.1.cell 1 _ rfl, HTD.out.2.1.cell 2 _ rfl, HTD.out.2.1.cell 3 _ rfl, HTD.out.2.1.cell 4 _ rfl, HTD.out.2.1.cell 5 _ rfl, HTD.out.2.1.cell 6 _ rfl, HTD.out.1.2.2.cells.2.2.1⟩
  have hRF : w.heap.size ≠ F := by omega
  have hRC : w.heap.size ≠ w.heap.size + 1 := by omega
  clear HT6
  go_region_held3 (fun w' => w'.cell? ⟨F, 0, none⟩ = some (.int .i64 y6) ∧ w'.cell? ⟨F, 1, none⟩ = some (.int .i64 y7) ∧ w'.cell? ⟨F, 2, none⟩ = some (.int .i64 y8) ∧ w'.cell? ⟨F, 3, none⟩ = some (.int .i64 y3) ∧ w'.cell? ⟨F, 4, none⟩ = some (.int .i64 q4) ∧ w'.cell? ⟨F, 5, none⟩ = some (.int .i64 q5) ∧ w'.cell? ⟨F, 6, none⟩ = some (.int .i64 q6) ∧ w'.cell? ⟨w.heap.size + 1, 2, none⟩ = some .nilIface) (first | with_reducible assumption | with_reducible exact HK.out | exact ⟨far7 hRF hk9.1, far7 hRF hk9.2.1, far7 hRF hk9.2.2.1, far7 hRF hk9.2.2.2.1, far7 hRF hk9.2.2.2.2.1, far7 hRF hk9.2.2.2.2.2.1, far7 hRF hk9.2.2.2.2.2.2.1, far7 hRC hk9.2.2.2.2.2.2.2⟩)
    ((go_at_call 51; refine CA.out.mono ?_; rintro e w8 ⟨rfl, hb8⟩; have hk9 : w8.cell? ⟨F, 0, none⟩ = some (.int .i64 y6) ∧ w8.cell? ⟨F, 1, none⟩ = some (.int .i64 y7) ∧ w8.cell? ⟨F, 2, none⟩ = some (.int .i64 y8) ∧ w8.cell? ⟨F, 3, none⟩ = some (.int .i64 y3) ∧ w8.cell? ⟨F, 4, none⟩ = some (.int .i64 q4) ∧ w8.cell? ⟨F, 5, none⟩ = some (.int .i64 q5) ∧ w8.cell? ⟨F, 6, none⟩ = some (.int .i64 q6) ∧ w8.cell? ⟨w.heap.size + 1, 2, none⟩ = some .nilIface := ⟨(HTD.out.next hb8).2.1.cell 0 _ rfl, (HTD.out.next hb8).2.1.cell 1 _ rfl, (HTD.out.next hb8).2.1.cell 2 _ rfl, (HTD.out.next hb8).2.1.cell 3 _ rfl, (HTD.out.next hb8).2.1.cell 4 _ rfl, (HTD.out.next hb8).2.1.cell 5 _ rfl, (HTD.out.next hb8).2.1.cell 6 _ rfl, (HTD.out.next hb8).1.2.2.cells.2.2.1⟩; have d0 := (HTD.out.next hb8).1.2.1.cell 0 _ rfl; have d1 := (HTD.out.next hb8).1.2.1.cell 1 _ rfl; have d2 := (HTD.out.next hb8).1.2.1.cell 2 _ rfl; have d3 := (HTD.out.next hb8).1.2.1.cell 3 _ rfl; have d4 := (HTD.out.next hb8).1.2.1.cell 4 _ rfl; have d5 := (HTD.out.next hb8).1.2.1.cell 5 _ rfl; have d6 := (HTD.out.next hb8).1.2.1.cell 6 _ rfl; have fz := (HTD.out.next hb8).1.2.1.frozen))
  all_goals
    have HT9 := hide (HTD.out.next hb8)
    clear hb8 HTD CA HK hk9
    go_wp2_with fail
    exact bodyPost_ret (v := .tuple #[.agg #[.int .i64 y6, .int .i64 y7, .int .i64 y8, .int .i64 y3, .int .i64 q4, .int .i64 q5, .int .i64 q6], .int .i64 0]) (by simp [results, Tryz.results13, go_sem, d0, d1, d2, d3, d4, d5, d6]) rfl ⟨rfl, (((((((HT9.out.1.1.setCell (p := ⟨w.heap.size, 0, none⟩) (Nat.le_refl _) _).setCell (p := ⟨w.heap.size, 1, none⟩) (Nat.le_refl _) _).setCell (p := ⟨w.heap.size, 2, none⟩) (Nat.le_refl _) _).setCell (p := ⟨w.heap.size, 3, none⟩) (Nat.le_refl _) _).setCell (p := ⟨w.heap.size, 4, none⟩) (Nat.le_refl _) _).setCell (p := ⟨w.heap.size, 5, none⟩) (Nat.le_refl _) _).setCell (p := ⟨w.heap.size, 6, none⟩) (Nat.le_refl _) _)⟩
set_option maxRecDepth 100000
/-- What ReadQuote tells of bytes. -/
def rqC (zs : List Int) : Int := if rhC zs ≠ 0 then rhC zs else if (zs.length : Int) < ihl zs + 8 then 2 else 0
def rqI (zs : List Int) (x : Int) : Int := if rqC zs = 0 then x else 0
def rqS (zs : List Int) : Nat := (ihl zs).toNat
end Go.Proofs.YthbkhfiadkookaaGreatDoor
