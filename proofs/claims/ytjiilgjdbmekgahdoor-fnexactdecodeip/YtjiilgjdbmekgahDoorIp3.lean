/-
Contracts of functions of this seat.
-/
import Derived.Test.YtjiilgjdbmekgahDoorRows
import Derived.WalkKit
import Derived.ProofKit
import Derived.OpenShut
import Derived.Test.YtjiilgjdbmekgahDoorIp2
namespace Go.Proofs.YtjiilgjdbmekgahDoor
open Go.ChangeShapes Go.WideShapes Go.ChangeAt Go.RowKit
set_option linter.unusedVariables false
set_option maxRecDepth 100000
abbrev zeroP : Obj := .cells #[.int .i64 0, .int .i64 0, .bool false, .bool false, .int .i64 0, .int .i64 0, .int .i64 0, .int .i64 0, .int .i64 0, .slice none 0 0, .slice none 0 0] 39
/-- The result's box and the cursor's, laid. -/
abbrev diW (w : World) (bv : Value) : World := (w.alloc zeroP).alloc (.cells #[bv, .int .i64 0, .nilIface] 49)
theorem diW_facts (w : World) (bv : Value) : ResP w (diW w bv) ∧ Cur (diW w bv) (w.heap.size + 1) bv 0 .nilIface ∧ (diW w bv).heap.size = w.heap.size + 2 := by
  have h1 := ResP.start w
  have hs := World.size_alloc w zeroP
  have hs2 := World.size_alloc (w.alloc zeroP) (.cells #[bv, .int .i64 0, .nilIface] 49)
  refine ⟨h1.next ((Below.refl _ _).alloc (Nat.le_refl _) _), ?_, ?_⟩
  · unfold Cur
    rw [← hs]
    exact heap_alloc_new _ _
  · show ((w.alloc zeroP).alloc (.cells #[bv, .int .i64 0, .nilIface] 49)).heap.size = _
    omega
theorem ResP.only {w w1 w2 : World} {S : List Nat} (h : ResP w w1) (k : Only S w1 w2) (hS : ∀ x ∈ S, w.heap.size < x) : ResP w w2 :=
  h.keep (k.below (B := w.heap.size + 1) (fun x hx => hS x hx) h.2.1) (Nat.lt_succ_self _)
set_option maxHeartbeats 8000000 in
theorem implDecIP_bad (a : Option Addr) (n cap : Nat) (c : Int) (hc0 : c ≠ 0) (w : World) (he : ErrT w)
    (hP : ∀ W, Cur W (w.heap.size + 1) (.slice a n cap) 0 .nilIface → Below w.heap.size w W → W.heap.size = w.heap.size + 2 → Calls Tryd.prog 38 #[.pointer (some ⟨w.heap.size + 1, 0, none⟩)] W fun e w' => ∃ (p : Nat) (y0 y1 y2 y3 y4 y5 y6 y7 y8 : Int) (ao : Option Addr) (lo co : Nat) (ap : Option Addr) (lp cp : Nat), e = .returned (.agg #[.int .i64 y0, .int .i64 y1, .int .i64 y2, .int .i64 y3, .int .i64 y4, .int .i64 y5, .int .i64 y6, .int .i64 y7, .int .i64 y8, .slice ao lo co, .slice ap lp cp]) ∧ Cur w' (w.heap.size + 1) (.slice a n cap) p (wErr c) ∧ Only [w.heap.size + 1] W w') :
    Calls Tryd.prog 18 #[.slice a n cap] w fun e w' => e = .returned (.tuple #[.agg #[.int .i64 0, .int .i64 0, .bool false, .bool false, .int .i64 0, .int .i64 0, .int .i64 0, .int .i64 0, .int .i64 0, .slice none 0 0, .slice none 0 0], .int .i64 c]) ∧ Below w.heap.size w w' := by
  have HI := hide (diW_facts w (.slice a n cap))
  have HP := hide hP
  have HE := hide he
  have hcb : (c != 0) = true := by simpa using hc0
  clear hP he hc0
  go_enter Tryd.func18, Tryd.ntmps18
  go_wp2_with fail
  generalize hW : diW w (.slice a n cap) = W at *
  unfold diW at hW
  rw [hW]
  clear hW
  refine (HP.out W HI.out.2.1 HI.out.1.1 HI.out.2.2).mono ?_
  rintro e W1 ⟨p, y0, y1, y2, y3, y4, y5, y6, y7, y8, ao, lo, co, ap, lp, cp, rfl, hc1, ho1⟩
  have HR := hide (HI.out.1.only ho1 (by intro x hx; simp at hx; omega))
  have HC := hide hc1
  clear HP HI hc1 ho1
  have hal := (Below.refl W1.heap.size W1).alloc (Nat.le_refl _) (.cells #[.int .i64 y0, .int .i64 y1, .int .i64 y2, .int .i64 y3, .int .i64 y4, .int .i64 y5, .int .i64 y6, .int .i64 y7, .int .i64 y8, .slice ao lo co, .slice ap lp cp] 63)
  have HC2 := hide (HC.out.below hal HC.out.lt)
  have HR2 := hide (HR.out.next hal)
  obtain ⟨c0, c1, c2, cf⟩ := HC2.out.cells
  clear hal HC HR
  go_wp2_with fail
  generalize hV : W1.alloc (.cells #[.int .i64 y0, .int .i64 y1, .int .i64 y2, .int .i64 y3, .int .i64 y4, .int .i64 y5, .int .i64 y6, .int .i64 y7, .int .i64 y8, .slice ao lo co, .slice ap lp cp] 63) = V at *
  clear hV c0 c1 c2 cf
  refine (codeOf_err c V (HE.out.below HR2.out.1 (Nat.le_refl _))).mono ?_
  rintro e W2 ⟨rfl, hb2⟩
  have HR3 := hide (HR2.out.next hb2)
  clear hb2 HC2 HR2
  obtain ⟨d0, d1, d2, d3, d4, d5, d6, d7, d8, d9, d10, df⟩ := cellsP HR3.out.2.2
  have HRES := hide HR3.out.1
  go_wp2_with fail
  exact bodyPost_ret (v := .tuple #[.agg #[.int .i64 0, .int .i64 0, .bool false, .bool false, .int .i64 0, .int .i64 0, .int .i64 0, .int .i64 0, .int .i64 0, .slice none 0 0, .slice none 0 0], .int .i64 c]) (by simp [results, Tryd.results18, go_sem, d0, d1, d2, d3, d4, d5, d6, d7, d8, d9, d10]) rfl ⟨rfl, below_11 HRES.out⟩
set_option maxHeartbeats 8000000 in
theorem implDecIP_good (a : Option Addr) (n cap : Nat) (w : World) (y0 y1 y2 y3 y4 y5 y6 y7 y8 : Int) (lo lp : Nat) (LO LP : List Int) (e1 e2 : Bool) (h1 : (bits .and .i64 y4 16384 != 0) = e1) (h2 : (bits .and .i64 y4 8192 != 0) = e2)
    (hP : ∀ W, Cur W (w.heap.size + 1) (.slice a n cap) 0 .nilIface → Below w.heap.size w W → W.heap.size = w.heap.size + 2 → Calls Tryd.prog 38 #[.pointer (some ⟨w.heap.size + 1, 0, none⟩)] W fun e w' => ∃ (p : Nat) (ao ap : Option Addr) (co cp : Nat), e = .returned (.agg #[.int .i64 y0, .int .i64 y1, .int .i64 y2, .int .i64 y3, .int .i64 y4, .int .i64 y5, .int .i64 y6, .int .i64 y7, .int .i64 y8, .slice ao lo co, .slice ap lp cp]) ∧ Cur w' (w.heap.size + 1) (.slice a n cap) p .nilIface ∧ OwnB w' (W.heap.size + 2) (.slice ao lo co) LO ∧ OwnB w' (W.heap.size + 2) (.slice ap lp cp) LP ∧ (∀ k, (Value.slice ao lo co).ownBlock = some k → (Value.slice ap lp cp).ownBlock ≠ some k) ∧ Only [w.heap.size + 1] W w') :
    Calls Tryd.prog 18 #[.slice a n cap] w fun e w' => ∃ v0 v1 : Value, e = .returned (.tuple #[.agg #[.int .i64 y1, .int .i64 y3, .bool e1, .bool e2, .int .i64 (y4 % 8192 * 8), .int .i64 y5, .int .i64 y6, .int .i64 y7, .int .i64 y8, v0, v1], .int .i64 0]) ∧ OwnB w' w.heap.size v0 LO ∧ OwnB w' w.heap.size v1 LP ∧ (∀ k, v0.ownBlock = some k → v1.ownBlock ≠ some k) ∧ Below w.heap.size w w' := by
  have HI := hide (diW_facts w (.slice a n cap))
  have HP := hide hP
  have H1 := hide h1
  have H2 := hide h2
  clear hP h1 h2
  go_enter Tryd.func18, Tryd.ntmps18
  go_wp2_with fail
  generalize hW : diW w (.slice a n cap) = W at *
  unfold diW at hW
  rw [hW]
  clear hW
  refine (HP.out W HI.out.2.1 HI.out.1.1 HI.out.2.2).mono ?_
  rintro e W1 ⟨p, ao, ap, co, cp, rfl, hc1, hO1, hO2, hap, ho1⟩
  have HR := hide (HI.out.1.only ho1 (by intro x hx; simp at hx; omega))
  have HC := hide hc1
  have hws := HI.out.2.2
  have HO1 := hide (hO1.mono (show w.heap.size + 1 ≤ W.heap.size + 2 by omega))
  have HO2 := hide (hO2.mono (show w.heap.size + 1 ≤ W.heap.size + 2 by omega))
  have HAP := hide hap
  clear HP HI hc1 ho1 hO1 hO2 hap hws
  have hal := (Below.refl W1.heap.size W1).alloc (Nat.le_refl _) (.cells #[.int .i64 y0, .int .i64 y1, .int .i64 y2, .int .i64 y3, .int .i64 y4, .int .i64 y5, .int .i64 y6, .int .i64 y7, .int .i64 y8, .slice ao lo co, .slice ap lp cp] 63)
  have HF2 : Hid (FR (W1.alloc (.cells #[.int .i64 y0, .int .i64 y1, .int .i64 y2, .int .i64 y3, .int .i64 y4, .int .i64 y5, .int .i64 y6, .int .i64 y7, .int .i64 y8, .slice ao lo co, .slice ap lp cp] 63)) W1.heap.size y0 y1 y2 y3 y4 y5 y6 y7 y8 (.slice ao lo co) (.slice ap lp cp)) := hide (heap_alloc_new _ _)
  have HC2 := hide (HC.out.below hal HC.out.lt)
  have HR2 := hide (HR.out.next hal)
  have HP1 := hide (HO1.out.next hal)
  have HP2 := hide (HO2.out.next hal)
  obtain ⟨c0, c1, c2, cf⟩ := HC2.out.cells
  clear hal HC HR HO1 HO2
  go_wp2_with fail
  generalize hV : W1.alloc (.cells #[.int .i64 y0, .int .i64 y1, .int .i64 y2, .int .i64 y3, .int .i64 y4, .int .i64 y5, .int .i64 y6, .int .i64 y7, .int .i64 y8, .slice ao lo co, .slice ap lp cp] 63) = V at *
  clear hV c0 c1 c2 cf
  generalize W1.heap.size = F at *
  refine (codeOf_nil V).mono ?_
  rintro e W2 ⟨rfl, hb2⟩
  have HR3 := hide (HR2.out.next hb2)
  have HF3 := hide (HF2.out.only (Only.of_below (S := []) hb2) (by simp))
  have HP3 := hide (HP1.out.next hb2)
  have HP4 := hide (HP2.out.next hb2)
  clear hb2 HC2 HR2 HF2 HP1 HP2
  go_wp2_with fail
  refine (packet_walk F W2 y0 y1 y2 y3 y4 y5 y6 y7 y8 ao lo co ap lp cp HF3.out e1 e2 H1.out H2.out).mono ?_
  rintro e W3 ⟨rfl, hb3⟩
  have HR4 := hide (HR3.out.next hb3)
  have HP5 := hide (HP3.out.next hb3)
  have HP6 := hide (HP4.out.next hb3)
  clear hb3 HR3 HF3 HP3 HP4
  obtain ⟨d0, d1, d2, d3, d4, d5, d6, d7, d8, d9, d10, df⟩ := cellsP HR4.out.2.2
  have HRES := hide HR4.out.1
  go_wp2_with fail
  exact bodyPost_ret (v := .tuple #[.agg #[.int .i64 y1, .int .i64 y3, .bool e1, .bool e2, .int .i64 (y4 % 8192 * 8), .int .i64 y5, .int .i64 y6, .int .i64 y7, .int .i64 y8, .slice ao lo co, .slice ap lp cp], .int .i64 0]) (by simp [results, Tryd.results18, go_sem, d0, d1, d2, d3, d4, d5, d6, d7, d8, d9, d10]) rfl ⟨_, _, rfl, own_11 HP5.out, own_11 HP6.out, HAP.out, below_11 HRES.out⟩
end Go.Proofs.YtjiilgjdbmekgahDoor
