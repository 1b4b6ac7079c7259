/-
Contracts of functions of this seat.
-/
import Derived.Test.YtakoagfeiolkjaaDoorRows
import Derived.WalkKit
import Derived.ProofKit
import Derived.OpenShut
import Derived.Test.YtakoagfeiolkjaaDoorIp2
namespace Go.Proofs.YtakoagfeiolkjaaDoor
open Go.ChangeShapes Go.WideShapes Go.ChangeAt Go.RowKit
set_option linter.unusedVariables false
set_option maxRecDepth 100000
theorem far11 {w : World} {R F j : Nat} (h : R ≠ F) {v : Option Value} {x0 x1 x2 x3 x4 x5 x6 x7 x8 x9 x10 : Value} (k : w.cell? ⟨F, j, none⟩ = v) : (((((((((((w.setCell ⟨R, 0, none⟩ x0).setCell ⟨R, 1, none⟩ x1).setCell ⟨R, 2, none⟩ x2).setCell ⟨R, 3, none⟩ x3).setCell ⟨R, 4, none⟩ x4).setCell ⟨R, 5, none⟩ x5).setCell ⟨R, 6, none⟩ x6).setCell ⟨R, 7, none⟩ x7).setCell ⟨R, 8, none⟩ x8).setCell ⟨R, 9, none⟩ x9).setCell ⟨R, 10, none⟩ x10).cell? ⟨F, j, none⟩ = v := (World.cell?_setCell_far _ _ _ _ h).trans ((World.cell?_setCell_far _ _ _ _ h).trans ((World.cell?_setCell_far _ _ _ _ h).trans ((World.cell?_setCell_far _ _ _ _ h).trans ((World.cell?_setCell_far _ _ _ _ h).trans ((World.cell?_setCell_far _ _ _ _ h).trans ((World.cell?_setCell_far _ _ _ _ h).trans ((World.cell?_setCell_far _ _ _ _ h).trans ((World.cell?_setCell_far _ _ _ _ h).trans ((World.cell?_setCell_far _ _ _ _ h).trans ((World.cell?_setCell_far _ _ _ _ h).trans (k)))))))))))
theorem DS0.onlyg {w W W' : World} {zr : Array Value} {T p p' : Nat} {bv ev bv' ev' : Value} (h : DS0 w W zr T bv p ev) (k : Only [w.heap.size + 1] W W') (hc : Cur W' (w.heap.size + 1) bv' p' ev') : DS0 w W' zr T bv' p' ev' :=
  ⟨h.1.trans (k.below (by intro x hx; simp at hx; omega) h.1.size), (k.block _ h.2.1.lt (by simp)).trans h.2.1, hc⟩
theorem size_two (w : World) (o1 o2 : Obj) : ((w.alloc o1).alloc o2).heap.size = w.heap.size + 2 := by
  have s1 := World.size_alloc w o1
  have s2 := World.size_alloc (w.alloc o1) o2
  omega
set_option maxHeartbeats 8000000 in
theorem implDecIP_bad (a : Option Addr) (n cap : Nat) (c : Int) (hc0 : c ≠ 0) (w : World) (he : ErrT w)
    (hP : ∀ W, Cur W (w.heap.size + 1) (.slice a n cap) 0 .nilIface → Below w.heap.size w W → W.heap.size = w.heap.size + 2 → Calls Tryd.prog 36 #[.pointer (some ⟨w.heap.size + 1, 0, none⟩)] W fun e w' => ∃ (p : Nat) (y0 y1 y2 y3 y4 y5 y6 y7 y8 : Int) (ao : Option Addr) (lo co : Nat) (ap : Option Addr) (lp cp : Nat), e = .returned (.agg #[.int .i64 y0, .int .i64 y1, .int .i64 y2, .int .i64 y3, .int .i64 y4, .int .i64 y5, .int .i64 y6, .int .i64 y7, .int .i64 y8, .slice ao lo co, .slice ap lp cp]) ∧ Cur w' (w.heap.size + 1) (.slice a n cap) p (wErr c) ∧ Only [w.heap.size + 1] W w') :
    Calls Tryd.prog 18 #[.slice a n cap] w fun e w' => e = .returned (.tuple #[.agg #[.int .i64 0, .int .i64 0, .bool false, .bool false, .int .i64 0, .int .i64 0, .int .i64 0, .int .i64 0, .int .i64 0, .slice none 0 0, .slice none 0 0], .int .i64 c]) ∧ Below w.heap.size w w' := by
  have HS0 := hide (DS0.start w #[.int .i64 0, .int .i64 0, .bool false, .bool false, .int .i64 0, .int .i64 0, .int .i64 0, .int .i64 0, .int .i64 0, .slice none 0 0, .slice none 0 0] 39 (.slice a n cap))
  have HSZ := hide (size_two w (.cells #[.int .i64 0, .int .i64 0, .bool false, .bool false, .int .i64 0, .int .i64 0, .int .i64 0, .int .i64 0, .int .i64 0, .slice none 0 0, .slice none 0 0] 39) (.cells #[.slice a n cap, .int .i64 0, .nilIface] 51))
  have HP := hide hP
  clear hP
  have HE := hide he
  have HC0 := hide hc0
  clear he hc0
  go_enter Tryd.func18, Tryd.ntmps18
  go_wp2_with fail
  generalize hW : (w.alloc (.cells #[.int .i64 0, .int .i64 0, .bool false, .bool false, .int .i64 0, .int .i64 0, .int .i64 0, .int .i64 0, .int .i64 0, .slice none 0 0, .slice none 0 0] 39)).alloc (.cells #[.slice a n cap, .int .i64 0, .nilIface] 51) = W at *
  clear hW
  refine (HP.out W HS0.out.2.2 HS0.out.1 HSZ.out).mono ?_
  rintro e W1 ⟨p, y0, y1, y2, y3, y4, y5, y6, y7, y8, ao, lo, co, ap, lp, cp, rfl, hc1, ho1⟩
  have HS1 := hide (HS0.out.onlyg ho1 hc1)
  clear HP HS0 HSZ hc1 ho1
  have hal := (Below.refl W1.heap.size W1).alloc (Nat.le_refl _) (.cells #[.int .i64 y0, .int .i64 y1, .int .i64 y2, .int .i64 y3, .int .i64 y4, .int .i64 y5, .int .i64 y6, .int .i64 y7, .int .i64 y8, .slice ao lo co, .slice ap lp cp] 62)
  have HF2 : Hid (FR (W1.alloc (.cells #[.int .i64 y0, .int .i64 y1, .int .i64 y2, .int .i64 y3, .int .i64 y4, .int .i64 y5, .int .i64 y6, .int .i64 y7, .int .i64 y8, .slice ao lo co, .slice ap lp cp] 62)) W1.heap.size y0 y1 y2 y3 y4 y5 y6 y7 y8 (.slice ao lo co) (.slice ap lp cp)) := hide (heap_alloc_new _ _)
  have HS2 := hide (HS1.out.next hal)
  clear hal HS1
  go_wp2_with fail
  generalize hV : W1.alloc (.cells #[.int .i64 y0, .int .i64 y1, .int .i64 y2, .int .i64 y3, .int .i64 y4, .int .i64 y5, .int .i64 y6, .int .i64 y7, .int .i64 y8, .slice ao lo co, .slice ap lp cp] 62) = V at *
  clear hV
  generalize W1.heap.size = F at *
  obtain ⟨e1, h1⟩ : ∃ e1, (bits .and .i64 y4 16384 != 0) = e1 := ⟨_, rfl⟩
  obtain ⟨e2, h2⟩ : ∃ e2, (bits .and .i64 y4 8192 != 0) = e2 := ⟨_, rfl⟩
  have H1 := hide h1
  have H2 := hide h2
  clear h1 h2
  have HSD := hide (HS2.out.next ((Below.refl _ _).drew))
  have CPK := hide (packet_walk F V.drew y0 y1 y2 y3 y4 y5 y6 y7 y8 ao lo co ap lp cp (FR.drew HF2.out) e1 e2 H1.out H2.out)
  have HED := hide (HE.out.below HSD.out.1 (Nat.le_refl _))
  have CA := hide (fun (W : World) (h : ErrT W) => ansPacket_err y1 y3 e1 e2 (y4 % 8192 * 8) y5 y6 y7 y8 ao lo co ap lp cp c HC0.out W h)
  clear HE
  have HK : Hid (V.drew.cell? ⟨w.heap.size + 1, 2, none⟩ = some (wErr c)) := hide HSD.out.2.2.cells.2.2.1
  have hRC : w.heap.size ≠ w.heap.size + 1 := by omega
  clear HS2 HF2 H1 H2
  go_region_held3 (fun w' => w'.cell? ⟨w.heap.size + 1, 2, none⟩ = some (wErr c)) (first | with_reducible assumption | with_reducible exact HK.out | exact far11 hRC hk9)
    (first
      | (go_at_call 38; refine CPK.out.mono ?_; rintro e w7 ⟨rfl, hb7⟩; have hk7 : w7.cell? ⟨w.heap.size + 1, 2, none⟩ = some (wErr c) := (HSD.out.next hb7).2.2.cells.2.2.1)
      | (go_at_call 37; refine (CA.out _ (HED.out.below hb7 (Nat.le_refl _))).mono ?_; rintro e w8 ⟨rfl, hb8⟩; have hk9 : w8.cell? ⟨w.heap.size + 1, 2, none⟩ = some (wErr c) := ((HSD.out.next hb7).next hb8).2.2.cells.2.2.1; have d0 := ((HSD.out.next hb7).next hb8).2.1.cell 0 _ rfl; have d1 := ((HSD.out.next hb7).next hb8).2.1.cell 1 _ rfl; have d2 := ((HSD.out.next hb7).next hb8).2.1.cell 2 _ rfl; have d3 := ((HSD.out.next hb7).next hb8).2.1.cell 3 _ rfl; have d4 := ((HSD.out.next hb7).next hb8).2.1.cell 4 _ rfl; have d5 := ((HSD.out.next hb7).next hb8).2.1.cell 5 _ rfl; have d6 := ((HSD.out.next hb7).next hb8).2.1.cell 6 _ rfl; have d7 := ((HSD.out.next hb7).next hb8).2.1.cell 7 _ rfl; have d8 := ((HSD.out.next hb7).next hb8).2.1.cell 8 _ rfl; have d9 := ((HSD.out.next hb7).next hb8).2.1.cell 9 _ rfl; have d10 := ((HSD.out.next hb7).next hb8).2.1.cell 10 _ rfl; have fz := ((HSD.out.next hb7).next hb8).2.1.frozen))
  all_goals
    have HS9 := hide ((HSD.out.next hb7).next hb8)
    clear hb7 hb8 HSD CA CPK HK hk7 hk9
    go_wp2_with fail
    exact bodyPost_ret (v := .tuple #[.agg #[.int .i64 0, .int .i64 0, .bool false, .bool false, .int .i64 0, .int .i64 0, .int .i64 0, .int .i64 0, .int .i64 0, .slice none 0 0, .slice none 0 0], .int .i64 c]) (by simp [results, Tryd.results18, go_sem, d0, d1, d2, d3, d4, d5, d6, d7, d8, d9, d10]) rfl ⟨rfl, (((((((((((HS9.out.1.setCell (p := ⟨w.heap.size, 0, none⟩) (Nat.le_refl _) _).setCell (p := ⟨w.heap.size, 1, none⟩) (Nat.le_refl _) _).setCell (p := ⟨w.heap.size, 2, none⟩) (Nat.le_refl _) _).setCell (p := ⟨w.heap.size, 3, none⟩) (Nat.le_refl _) _).setCell (p := ⟨w.heap.size, 4, none⟩) (Nat.le_refl _) _).setCell (p := ⟨w.heap.size, 5, none⟩) (Nat.le_refl _) _).setCell (p := ⟨w.heap.size, 6, none⟩) (Nat.le_refl _) _).setCell (p := ⟨w.heap.size, 7, none⟩) (Nat.le_refl _) _).setCell (p := ⟨w.heap.size, 8, none⟩) (Nat.le_refl _) _).setCell (p := ⟨w.heap.size, 9, none⟩) (Nat.le_refl _) _).setCell (p := ⟨w.heap.size, 10, none⟩) (Nat.le_refl _) _)⟩
set_option maxHeartbeats 8000000 in
theorem implDecIP_good (a : Option Addr) (n cap : Nat) (w : World) (y0 y1 y2 y3 y4 y5 y6 y7 y8 : Int) (lo lp : Nat) (LO LP : List Int) (e1 e2 : Bool) (h1 : (bits .and .i64 y4 16384 != 0) = e1) (h2 : (bits .and .i64 y4 8192 != 0) = e2)
    (hP : ∀ W, Cur W (w.heap.size + 1) (.slice a n cap) 0 .nilIface → Below w.heap.size w W → W.heap.size = w.heap.size + 2 → Calls Tryd.prog 36 #[.pointer (some ⟨w.heap.size + 1, 0, none⟩)] W fun e w' => ∃ (p : Nat) (ao ap : Option Addr) (co cp : Nat), e = .returned (.agg #[.int .i64 y0, .int .i64 y1, .int .i64 y2, .int .i64 y3, .int .i64 y4, .int .i64 y5, .int .i64 y6, .int .i64 y7, .int .i64 y8, .slice ao lo co, .slice ap lp cp]) ∧ Cur w' (w.heap.size + 1) (.slice a n cap) p .nilIface ∧ OwnB w' (W.heap.size + 2) (.slice ao lo co) LO ∧ OwnB w' (W.heap.size + 2) (.slice ap lp cp) LP ∧ (∀ k, (Value.slice ao lo co).ownBlock = some k → (Value.slice ap lp cp).ownBlock ≠ some k) ∧ Only [w.heap.size + 1] W w') :
    Calls Tryd.prog 18 #[.slice a n cap] w fun e w' => ∃ v0 v1 : Value, e = .returned (.tuple #[.agg #[.int .i64 y1, .int .i64 y3, .bool e1, .bool e2, .int .i64 (y4 % 8192 * 8), .int .i64 y5, .int .i64 y6, .int .i64 y7, .int .i64 y8, v0, v1], .int .i64 0]) ∧ OwnB w' w.heap.size v0 LO ∧ OwnB w' w.heap.size v1 LP ∧ (∀ k, v0.ownBlock = some k → v1.ownBlock ≠ some k) ∧ Below w.heap.size w w' := by
  have HS0 := hide (DS0.start w #[.int .i64 0, .int .i64 0, .bool false, .bool false, .int .i64 0, .int .i64 0, .int .i64 0, .int .i64 0, .int .i64 0, .slice none 0 0, .slice none 0 0] 39 (.slice a n cap))
  have HSZ := hide (size_two w (.cells #[.int .i64 0, .int .i64 0, .bool false, .bool false, .int .i64 0, .int .i64 0, .int .i64 0, .int .i64 0, .int .i64 0, .slice none 0 0, .slice none 0 0] 39) (.cells #[.slice a n cap, .int .i64 0, .nilIface] 51))
  have HP := hide hP
  clear hP
  have H1 := hide h1
  have H2 := hide h2
  clear h1 h2
  go_enter Tryd.func18, Tryd.ntmps18
  go_wp2_with fail
  generalize hW : (w.alloc (.cells #[.int .i64 0, .int .i64 0, .bool false, .bool false, .int .i64 0, .int .i64 0, .int .i64 0, .int .i64 0, .int .i64 0, .slice none 0 0, .slice none 0 0] 39)).alloc (.cells #[.slice a n cap, .int .i64 0, .nilIface] 51) = W at *
  clear hW
  refine (HP.out W HS0.out.2.2 HS0.out.1 HSZ.out).mono ?_
  rintro e W1 ⟨p, ao, ap, co, cp, rfl, hc1, hO1, hO2, hap, ho1⟩
  have HS1 := hide (HS0.out.onlyg ho1 hc1)
  have hws := HSZ.out
  have HO1 := hide (hO1.mono (show w.heap.size + 1 ≤ W.heap.size + 2 by omega))
  have HO2 := hide (hO2.mono (show w.heap.size + 1 ≤ W.heap.size + 2 by omega))
  have HAP := hide hap
  clear hO1 hO2 hap hws
  clear HP HS0 HSZ hc1 ho1
  have hal := (Below.refl W1.heap.size W1).alloc (Nat.le_refl _) (.cells #[.int .i64 y0, .int .i64 y1, .int .i64 y2, .int .i64 y3, .int .i64 y4, .int .i64 y5, .int .i64 y6, .int .i64 y7, .int .i64 y8, .slice ao lo co, .slice ap lp cp] 62)
  have HF2 : Hid (FR (W1.alloc (.cells #[.int .i64 y0, .int .i64 y1, .int .i64 y2, .int .i64 y3, .int .i64 y4, .int .i64 y5, .int .i64 y6, .int .i64 y7, .int .i64 y8, .slice ao lo co, .slice ap lp cp] 62)) W1.heap.size y0 y1 y2 y3 y4 y5 y6 y7 y8 (.slice ao lo co) (.slice ap lp cp)) := hide (heap_alloc_new _ _)
  have HS2 := hide (HS1.out.next hal)
  have HP1 := hide (HO1.out.next hal)
  have HP2 := hide (HO2.out.next hal)
  clear HO1 HO2
  clear hal HS1
  go_wp2_with fail
  generalize hV : W1.alloc (.cells #[.int .i64 y0, .int .i64 y1, .int .i64 y2, .int .i64 y3, .int .i64 y4, .int .i64 y5, .int .i64 y6, .int .i64 y7, .int .i64 y8, .slice ao lo co, .slice ap lp cp] 62) = V at *
  clear hV
  generalize W1.heap.size = F at *
  have HSD := hide (HS2.out.next ((Below.refl _ _).drew))
  have CPK := hide (packet_walk F V.drew y0 y1 y2 y3 y4 y5 y6 y7 y8 ao lo co ap lp cp (FR.drew HF2.out) e1 e2 H1.out H2.out)
  have HQ1 := hide HP1.out.drew
  have HQ2 := hide HP2.out.drew
  have CA := hide (fun W => ansPacket_nil y1 y3 e1 e2 (y4 % 8192 * 8) y5 y6 y7 y8 ao lo co ap lp cp W)
  clear HP1 HP2
  have HK : Hid (V.drew.cell? ⟨w.heap.size + 1, 2, none⟩ = some .nilIface) := hide HSD.out.2.2.cells.2.2.1
  have hRC : w.heap.size ≠ w.heap.size + 1 := by omega
  clear HS2 HF2 H1 H2
  go_region_held3 (fun w' => w'.cell? ⟨w.heap.size + 1, 2, none⟩ = some .nilIface) (first | with_reducible assumption | with_reducible exact HK.out | exact far11 hRC hk9)
    (first
      | (go_at_call 38; refine CPK.out.mono ?_; rintro e w7 ⟨rfl, hb7⟩; have hk7 : w7.cell? ⟨w.heap.size + 1, 2, none⟩ = some .nilIface := (HSD.out.next hb7).2.2.cells.2.2.1)
      | (go_at_call 37; refine (CA.out _).mono ?_; rintro e w8 ⟨rfl, hb8⟩; have hk9 : w8.cell? ⟨w.heap.size + 1, 2, none⟩ = some .nilIface := ((HSD.out.next hb7).next hb8).2.2.cells.2.2.1; have d0 := ((HSD.out.next hb7).next hb8).2.1.cell 0 _ rfl; have d1 := ((HSD.out.next hb7).next hb8).2.1.cell 1 _ rfl; have d2 := ((HSD.out.next hb7).next hb8).2.1.cell 2 _ rfl; have d3 := ((HSD.out.next hb7).next hb8).2.1.cell 3 _ rfl; have d4 := ((HSD.out.next hb7).next hb8).2.1.cell 4 _ rfl; have d5 := ((HSD.out.next hb7).next hb8).2.1.cell 5 _ rfl; have d6 := ((HSD.out.next hb7).next hb8).2.1.cell 6 _ rfl; have d7 := ((HSD.out.next hb7).next hb8).2.1.cell 7 _ rfl; have d8 := ((HSD.out.next hb7).next hb8).2.1.cell 8 _ rfl; have d9 := ((HSD.out.next hb7).next hb8).2.1.cell 9 _ rfl; have d10 := ((HSD.out.next hb7).next hb8).2.1.cell 10 _ rfl; have fz := ((HSD.out.next hb7).next hb8).2.1.frozen))
  all_goals
    have HS9 := hide ((HSD.out.next hb7).next hb8)
    have HR1 := hide ((HQ1.out.next hb7).next hb8)
    have HR2 := hide ((HQ2.out.next hb7).next hb8)
    clear hb7 hb8 HSD CA CPK HK hk7 hk9
    go_wp2_with fail
    exact bodyPost_ret (v := .tuple #[.agg #[.int .i64 y1, .int .i64 y3, .bool e1, .bool e2, .int .i64 (y4 % 8192 * 8), .int .i64 y5, .int .i64 y6, .int .i64 y7, .int .i64 y8, .slice ao lo co, .slice ap lp cp], .int .i64 0]) (by simp [results, Tryd.results18, go_sem, d0, d1, d2, d3, d4, d5, d6, d7, d8, d9, d10]) rfl ⟨_, _, rfl, (((((((((((HR1.out.setBelow (a := ⟨w.heap.size, 0, none⟩) (Nat.lt_succ_self _) _).setBelow (a := ⟨w.heap.size, 1, none⟩) (Nat.lt_succ_self _) _).setBelow (a := ⟨w.heap.size, 2, none⟩) (Nat.lt_succ_self _) _).setBelow (a := ⟨w.heap.size, 3, none⟩) (Nat.lt_succ_self _) _).setBelow (a := ⟨w.heap.size, 4, none⟩) (Nat.lt_succ_self _) _).setBelow (a := ⟨w.heap.size, 5, none⟩) (Nat.lt_succ_self _) _).setBelow (a := ⟨w.heap.size, 6, none⟩) (Nat.lt_succ_self _) _).setBelow (a := ⟨w.heap.size, 7, none⟩) (Nat.lt_succ_self _) _).setBelow (a := ⟨w.heap.size, 8, none⟩) (Nat.lt_succ_self _) _).setBelow (a := ⟨w.heap.size, 9, none⟩) (Nat.lt_succ_self _) _).setBelow (a := ⟨w.heap.size, 10, none⟩) (Nat.lt_succ_self _) _).mono (Nat.le_succ _), (((((((((((HR2.out.setBelow (a := ⟨w.heap.size, 0, none⟩) (Nat.lt_succ_self _) _).setBelow (a := ⟨w.heap.size, 1, none⟩) (Nat.lt_succ_self _) _).setBelow (a := ⟨w.heap.size, 2, none⟩) (Nat.lt_succ_self _) _).setBelow (a := ⟨w.heap.size, 3, none⟩) (Nat.lt_succ_self _) _).setBelow (a := ⟨w.heap.size, 4, none⟩) (Nat.lt_succ_self _) _).setBelow (a := ⟨w.heap.size, 5, none⟩) (Nat.lt_succ_self _) _).setBelow (a := ⟨w.heap.size, 6, none⟩) (Nat.lt_succ_self _) _).setBelow (a := ⟨w.heap.size, 7, none⟩) (Nat.lt_succ_self _) _).setBelow (a := ⟨w.heap.size, 8, none⟩) (Nat.lt_succ_self _) _).setBelow (a := ⟨w.heap.size, 9, none⟩) (Nat.lt_succ_self _) _).setBelow (a := ⟨w.heap.size, 10, none⟩) (Nat.lt_succ_self _) _).mono (Nat.le_succ _), HAP.out, (((((((((((HS9.out.1.setCell (p := ⟨w.heap.size, 0, none⟩) (Nat.le_refl _) _).setCell (p := ⟨w.heap.size, 1, none⟩) (Nat.le_refl _) _).setCell (p := ⟨w.heap.size, 2, none⟩) (Nat.le_refl _) _).setCell (p := ⟨w.heap.size, 3, none⟩) (Nat.le_refl _) _).setCell (p := ⟨w.heap.size, 4, none⟩) (Nat.le_refl _) _).setCell (p := ⟨w.heap.size, 5, none⟩) (Nat.le_refl _) _).setCell (p := ⟨w.heap.size, 6, none⟩) (Nat.le_refl _) _).setCell (p := ⟨w.heap.size, 7, none⟩) (Nat.le_refl _) _).setCell (p := ⟨w.heap.size, 8, none⟩) (Nat.le_refl _) _).setCell (p := ⟨w.heap.size, 9, none⟩) (Nat.le_refl _) _).setCell (p := ⟨w.heap.size, 10, none⟩) (Nat.le_refl _) _)⟩
end Go.Proofs.YtakoagfeiolkjaaDoor
