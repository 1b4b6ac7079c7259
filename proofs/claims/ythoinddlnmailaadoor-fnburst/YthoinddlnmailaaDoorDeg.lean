/-
Contracts of functions of this seat.
-/
import Derived.Test.YthoinddlnmailaaDoorRows
import Derived.WalkKit
import Derived.ProofKit
import Derived.OpenShut
import Derived.Test.YthoinddlnmailaaDoorAns
import Derived.Test.YthoinddlnmailaaDoorRev
import Derived.Deep.RegionHeld3
namespace Go.Proofs.YthoinddlnmailaaDoor
open Go.ChangeShapes Go.WideShapes Go.ChangeAt Go.RowKit
set_option linter.unusedVariables false
set_option maxRecDepth 100000
theorem far4 {w : World} {R F j : Nat} (h : R ≠ F) {v : Option Value} {x0 x1 x2 x3 : Value} (k : w.cell? ⟨F, j, none⟩ = v) : ((((w.setCell ⟨R, 0, none⟩ x0).setCell ⟨R, 1, none⟩ x1).setCell ⟨R, 2, none⟩ x2).setCell ⟨R, 3, none⟩ x3).cell? ⟨F, j, none⟩ = v := (World.cell?_setCell_far _ _ _ _ h).trans ((World.cell?_setCell_far _ _ _ _ h).trans ((World.cell?_setCell_far _ _ _ _ h).trans ((World.cell?_setCell_far _ _ _ _ h).trans (k))))

theorem passed_zero (g n cap : Nat) (a : Option Addr) (ev : Value) (w : World) (hc : Cur w g (.slice a n cap) 0 ev) :
    Calls Tryd.prog 44 #[.pointer (some ⟨g, 0, none⟩)] w fun e w' => (∃ a' c', e = .returned (.slice a' 0 c')) ∧ ∃ m, w' = w.drewN m := by
  obtain ⟨c0, c1, c2, cf⟩ := hc.cells
  obtain ⟨a', c', sl⟩ : ∃ a' c', ∀ w : World, (Instr.slice 22 (.slice a n cap) none (some (.int .i64 0)) none).run Tryd.prog w = .ok (.slice a' 0 c') w := by
    refine ⟨if cap = 0 then a else a.map (·.add (0 * 1)), cap - 0, fun w => ?_⟩
    have hs : (sizeOf (Tryd.prog.elem 22)).run Tryd.prog w = .ok 1 w := Tryd.sizeOf5 w
    rw [run_slice_h (P := Tryd.prog) (w := w) 22 a n cap Tryd.underlying22 .i64 0 (by omega) (by omega), hs]
    rfl
  clear hc
  go_enter Tryd.func44, Tryd.ntmps44
  go_wp2
  go_quiet (fail)
  go_wp2
  go_ret
  exact ⟨⟨a', c', rfl⟩, _, rfl⟩
/-- The frame that is being read lies in block F. -/
def FrB (w : World) (F : Nat) (x0 x1 x2 : Int) (v : Value) : Prop := w.heap[F]? = some (.cells #[.int .i64 x0, .int .i64 x1, .int .i64 x2, v] 32)
/-- The state of DecodeFrame: result's cells, cursor, frame, bytes. -/
def DecS (w W : World) (b off n cap F p : Nat) (zs : List Int) (x0 x1 x2 : Int) (v ev : Value) : Prop :=
  ResF w W ∧ Cur W (w.heap.size + 1) (.slice (some ⟨b, off, none⟩) n cap) p ev ∧ FrB W F x0 x1 x2 v ∧ Arr W (some ⟨b, off, none⟩) zs ∧ b < w.heap.size ∧ w.heap.size + 1 < F
theorem ResF.kept {w0 w w' : World} {g : Nat} (h : ResF w0 w) (hg : w.grownBy w' (some g)) (hlt : w0.heap.size < g) : ResF w0 w' :=
  ⟨h.1.trans (grown_under hg (Nat.le_of_lt hlt) h.1.size), Nat.lt_of_lt_of_le h.2.1 hg.size, (hg.block _ h.2.1 (by intro e; cases e; omega)).trans h.2.2⟩
theorem FrB.lt {w : World} {F : Nat} {x0 x1 x2 : Int} {v : Value} (h : FrB w F x0 x1 x2 v) : F < w.heap.size := (Array.getElem?_eq_some_iff.1 h).1
theorem FrB.kept {w w' : World} {F g : Nat} {x0 x1 x2 : Int} {v : Value} (h : FrB w F x0 x1 x2 v) (hg : w.grownBy w' (some g)) (hne : F ≠ g) : FrB w' F x0 x1 x2 v := (hg.block F h.lt (by intro e; cases e; exact hne rfl)).trans h
theorem DecS.moved {w W W' : World} {b off n cap F p q : Nat} {zs : List Int} {x0 x1 x2 : Int} {v ev ev' : Value} (h : DecS w W b off n cap F p zs x0 x1 x2 v ev) (hg : W.grownBy W' (some (w.heap.size + 1))) (hc : Cur W' (w.heap.size + 1) (.slice (some ⟨b, off, none⟩) n cap) q ev') : DecS w W' b off n cap F q zs x0 x1 x2 v ev' := by
  obtain ⟨h1, h2, h3, h4, h5, h6⟩ := h
  exact ⟨h1.kept hg (by omega), hc, h3.kept hg (by omega), h4.aside hg (by omega), h5, h6⟩
theorem DecS.next {w W W' : World} {b off n cap F p : Nat} {zs : List Int} {x0 x1 x2 : Int} {v ev : Value} (h : DecS w W b off n cap F p zs x0 x1 x2 v ev) (hb : Below W.heap.size W W') : DecS w W' b off n cap F p zs x0 x1 x2 v ev := by
  obtain ⟨h1, h2, h3, h4, h5, h6⟩ := h
  exact ⟨h1.next hb, h2.below hb h2.lt, (hb.block F h3.lt).trans h3, h4.below hb (Nat.le_refl _), h5, h6⟩
theorem DecS.drewN {w W : World} {b off n cap F p : Nat} {zs : List Int} {x0 x1 x2 : Int} {v ev : Value} (h : DecS w W b off n cap F p zs x0 x1 x2 v ev) (m : Nat) : DecS w (W.drewN m) b off n cap F p zs x0 x1 x2 v ev := h.next (below_drewN (Below.refl _ _) m)
theorem DecS.cells {w W : World} {b off n cap F p : Nat} {zs : List Int} {x0 x1 x2 : Int} {v ev : Value} (h : DecS w W b off n cap F p zs x0 x1 x2 v ev) : W.cell? ⟨F, 0, none⟩ = some (.int .i64 x0) ∧ W.cell? ⟨F, 1, none⟩ = some (.int .i64 x1) ∧ W.cell? ⟨F, 2, none⟩ = some (.int .i64 x2) ∧ W.cell? ⟨F, 3, none⟩ = some v ∧ ∀ o, W.frozen? ⟨F, o, none⟩ = false := four_cells h.2.2.1
theorem DecS.other {w W : World} {b off n cap F p i : Nat} {zs : List Int} {x0 x1 x2 y0 y1 y2 : Int} {u v ev : Value} (h : DecS w W b off n cap F p zs x0 x1 x2 v ev) (x : Value) (hf : FrB (W.setCell ⟨F, i, none⟩ x) F y0 y1 y2 u) : DecS w (W.setCell ⟨F, i, none⟩ x) b off n cap F p zs y0 y1 y2 u ev := by
  obtain ⟨h1, h2, h3, h4, h5, h6⟩ := h
  have hg := grown_cell W F i x
  exact ⟨h1.kept hg (by omega), h2.kept hg (by intro e; cases e; omega), hf, h4.aside hg (by omega), h5, h6⟩
theorem DecS.set0 {w W : World} {b off n cap F p : Nat} {zs : List Int} {x0 x1 x2 : Int} {v ev : Value} (h : DecS w W b off n cap F p zs x0 x1 x2 v ev) (y : Int) : DecS w (W.setCell ⟨F, 0, none⟩ (.int .i64 y)) b off n cap F p zs y x1 x2 v ev := h.other _ (heap_setCell_same W F 0 _ _ _ h.2.2.1)
theorem DecS.set1 {w W : World} {b off n cap F p : Nat} {zs : List Int} {x0 x1 x2 : Int} {v ev : Value} (h : DecS w W b off n cap F p zs x0 x1 x2 v ev) (y : Int) : DecS w (W.setCell ⟨F, 1, none⟩ (.int .i64 y)) b off n cap F p zs x0 y x2 v ev := h.other _ (heap_setCell_same W F 1 _ _ _ h.2.2.1)
theorem DecS.set2 {w W : World} {b off n cap F p : Nat} {zs : List Int} {x0 x1 x2 : Int} {v ev : Value} (h : DecS w W b off n cap F p zs x0 x1 x2 v ev) (y : Int) : DecS w (W.setCell ⟨F, 2, none⟩ (.int .i64 y)) b off n cap F p zs x0 x1 y v ev := h.other _ (heap_setCell_same W F 2 _ _ _ h.2.2.1)
theorem DecS.set3 {w W : World} {b off n cap F p : Nat} {zs : List Int} {x0 x1 x2 : Int} {v ev : Value} (h : DecS w W b off n cap F p zs x0 x1 x2 v ev) (u : Value) : DecS w (W.setCell ⟨F, 3, none⟩ u) b off n cap F p zs x0 x1 x2 u ev := h.other _ (heap_setCell_same W F 3 _ _ _ h.2.2.1)
abbrev decW (w : World) (v : Value) : World := (w.alloc (.cells #[.int .i64 0, .int .i64 0, .int .i64 0, .slice none 0 0] 32)).alloc (.cells #[v, .int .i64 0, .nilIface] 66)
theorem decW_facts (w : World) (v : Value) : ResF w (decW w v) ∧ Cur (decW w v) (w.heap.size + 1) v 0 .nilIface ∧ (decW w v).heap.size = w.heap.size + 2 := by
  have hs := World.size_alloc w (.cells #[.int .i64 0, .int .i64 0, .int .i64 0, .slice none 0 0] 32)
  refine ⟨(ResF.start w).next ((Below.refl _ _).alloc (Nat.le_refl _) _), ?_, by rw [World.size_alloc, hs]⟩
  unfold Cur
  rw [← hs]
  exact heap_alloc_new _ _
theorem take6 (g p n cap b off : Nat) (zs : List Int) (w : World) (hc : Cur w g (.slice (some ⟨b, off, none⟩) n cap) p .nilIface) (hn : n ≤ 1048576) (hk : p + 6 ≤ n) (hcap : n ≤ cap) (hz : zs.length = n) (ha : Arr w (some ⟨b, off, none⟩) zs) (hb : b ≠ g) :
    Calls Tryd.prog 46 #[.pointer (some ⟨g, 0, none⟩), .int .i64 6] w fun e w' => e = .returned (.int .i64 (tnum ((zs.drop p).take 6))) ∧ Cur w' g (.slice (some ⟨b, off, none⟩) n cap) (p + 6) .nilIface ∧ w.grownBy w' (some g) :=
  take_ok g p n cap b off 6 zs w hc hn hk (by omega) hcap hz ha hb (by omega)
theorem take2 (g p n cap b off : Nat) (zs : List Int) (w : World) (hc : Cur w g (.slice (some ⟨b, off, none⟩) n cap) p .nilIface) (hn : n ≤ 1048576) (hk : p + 2 ≤ n) (hcap : n ≤ cap) (hz : zs.length = n) (ha : Arr w (some ⟨b, off, none⟩) zs) (hb : b ≠ g) :
    Calls Tryd.prog 46 #[.pointer (some ⟨g, 0, none⟩), .int .i64 2] w fun e w' => e = .returned (.int .i64 (tnum ((zs.drop p).take 2))) ∧ Cur w' g (.slice (some ⟨b, off, none⟩) n cap) (p + 2) .nilIface ∧ w.grownBy w' (some g) :=
  take_ok g p n cap b off 2 zs w hc hn hk (by omega) hcap hz ha hb (by omega)
theorem take4 (g p n cap b off : Nat) (zs : List Int) (w : World) (hc : Cur w g (.slice (some ⟨b, off, none⟩) n cap) p .nilIface) (hn : n ≤ 1048576) (hk : p + 4 ≤ n) (hcap : n ≤ cap) (hz : zs.length = n) (ha : Arr w (some ⟨b, off, none⟩) zs) (hb : b ≠ g) :
    Calls Tryd.prog 46 #[.pointer (some ⟨g, 0, none⟩), .int .i64 4] w fun e w' => e = .returned (.int .i64 (tnum ((zs.drop p).take 4))) ∧ Cur w' g (.slice (some ⟨b, off, none⟩) n cap) (p + 4) .nilIface ∧ w.grownBy w' (some g) :=
  take_ok g p n cap b off 4 zs w hc hn hk (by omega) hcap hz ha hb (by omega)
theorem sum_eq (zs : List Int) (n p : Nat) (hn : zs.length = n) (hp : p + 4 = n) (hz : ∀ z ∈ zs, 0 ≤ z ∧ z ≤ 255) : (tnum ((zs.drop p).take 4) == rev32 (sumOf (zs.take p))) = sumB zs := by
  have hl : (zs.drop p).length = 4 := by rw [List.length_drop]; omega
  have e : (zs.drop p).take 4 = zs.drop p := List.take_of_length_le (by omega)
  have hs := sumOf_bd (zs.take p) (fun z h => hz z (List.mem_of_mem_take h))
  rw [e, take_rev _ hl (fun z h => hz z (List.mem_of_mem_drop h)) _ hs.1 hs.2]
  unfold sumB
  rw [show zs.length - 4 = p by omega]
theorem OwnB.aside {w w' : World} {B g : Nat} {v : Value} {zs : List Int} (h : OwnB w B v zs) (hg : w.grownBy w' (some g)) (hlt : g < B) : OwnB w' B v zs :=
  h.kept hg (.inr (fun e => by have := (h.1.lt g e).1; omega))
set_option maxHeartbeats 4000000 in
theorem implDec_good (b off n cap : Nat) (zs : List Int) (w : World) (hn : zs.length = n) (ha : Arr w (some ⟨b, off, none⟩) zs) (h0 : 18 ≤ n) (h1 : n ≤ 1518) (hc : n ≤ cap) (hs : sumB zs = true) :
    Calls Tryd.prog 13 #[.slice (some ⟨b, off, none⟩) n cap] w fun r w' => ∃ v : Value, r = .returned (.tuple #[.agg #[.int .i64 (tnum (zs.take 6)), .int .i64 (tnum ((zs.drop 6).take 6)), .int .i64 (tnum ((zs.drop 12).take 2)), v], .int .i64 0]) ∧ OwnB w' w.heap.size v ((zs.drop 14).take (n - 18)) ∧ Below w.heap.size w w' := by
  obtain ⟨x0, hx0⟩ : ∃ x, x = tnum (zs.take 6) := ⟨_, rfl⟩
  obtain ⟨x1, hx1⟩ : ∃ x, x = tnum ((zs.drop 6).take 6) := ⟨_, rfl⟩
  obtain ⟨x2, hx2⟩ : ∃ x, x = tnum ((zs.drop 12).take 2) := ⟨_, rfl⟩
  obtain ⟨ps, hps⟩ : ∃ x, x = (zs.drop 14).take (n - 18) := ⟨_, rfl⟩
  have HX0 := hide hx0
  have HX1 := hide hx1
  have HX2 := hide hx2
  have HPS := hide hps
  rw [← hx0, ← hx1, ← hx2, ← hps]
  clear hx0 hx1 hx2 hps
  have hi0 : (18 : Int) ≤ (n : Int) := by omega
  have hi1 : (n : Int) ≤ 1518 := by omega
  have hblt : b < w.heap.size := by
    obtain ⟨b', o', e, hlt, _⟩ := ha.2 0 (by omega)
    cases e
    exact hlt
  have HF := hide (decW_facts w (.slice (some ⟨b, off, none⟩) n cap))
  have HA := hide ha
  have HN := hide hn
  have HSUM := hide hs
  clear ha hn hs
  go_enter Tryd.func13, Tryd.ntmps13
  go_wp2_with fail
  have CD := hide (fun code => demand_yes (w.heap.size + 1) 0 (.slice (some ⟨b, off, none⟩) n cap) code _ HF.out.2.1)
  have HR0 := hide HF.out.1
  have HC0 := hide HF.out.2.1
  have HZ0 := hide HF.out.2.2
  clear HF
  generalize hW : decW w (.slice (some ⟨b, off, none⟩) n cap) = W at *
  unfold decW at hW
  rw [hW]
  clear hW
  refine (CD.out _).mono ?_
  rintro e w1 ⟨rfl, hw1⟩
  rw [hw1]
  clear hw1
  go_wp2_with fail
  refine (CD.out _).mono ?_
  rintro e w1 ⟨rfl, hw1⟩
  rw [hw1]
  clear hw1 CD
  have hal := (Below.refl W.heap.size W).alloc (Nat.le_refl _) (.cells #[.int .i64 0, .int .i64 0, .int .i64 0, .slice none 0 0] 32)
  have hS : DecS w (W.alloc (.cells #[.int .i64 0, .int .i64 0, .int .i64 0, .slice none 0 0] 32)) b off n cap W.heap.size 0 zs 0 0 0 (.slice none 0 0) .nilIface :=
    ⟨HR0.out.next hal, HC0.out.below hal HC0.out.lt, heap_alloc_new _ _, HA.out.below (HR0.out.1.trans (hal.mono HR0.out.1.size)) (Nat.le_refl _), hblt, by have := HZ0.out; omega⟩
  have HS := hide hS
  clear hS hal HR0 HC0 HZ0 HA
  go_wp2_with fail
  generalize hV : W.alloc (.cells #[.int .i64 0, .int .i64 0, .int .i64 0, .slice none 0 0] 32) = V at *
  clear hV
  generalize W.heap.size = F at *
  have hCF := HS.out.2.2.2.2.2
  have t1 := take6 (w.heap.size + 1) 0 n cap b off zs V HS.out.2.1 (by omega) (by omega) hc HN.out HS.out.2.2.2.1 (by omega)
  rw [show tnum ((zs.drop 0).take 6) = x0 from HX0.out.symm] at t1
  have T1 := hide t1
  clear t1
  refine T1.out.mono ?_
  rintro e w2 ⟨rfl, hc2, hg2⟩
  have HS2 := hide (HS.out.moved hg2 hc2)
  clear HS T1 hc2 hg2
  obtain ⟨f0, f1, f2, f3, ff⟩ := HS2.out.cells
  have HS3 : Hid (DecS w (w2.setCell ⟨F, 0, none⟩ (.int .i64 x0)) b off n cap F 6 zs x0 0 0 (.slice none 0 0) .nilIface) := hide (HS2.out.set0 x0)
  clear HS2
  go_wp2_with fail
  generalize w2.setCell ⟨F, 0, none⟩ (.int .i64 x0) = V3 at *
  have t2 := take6 (w.heap.size + 1) 6 n cap b off zs V3 HS3.out.2.1 (by omega) (by omega) hc HN.out HS3.out.2.2.2.1 (by omega)
  rw [← HX1.out] at t2
  have T2 := hide t2
  clear t2 f0 f1 f2 f3 ff
  refine T2.out.mono ?_
  rintro e w4 ⟨rfl, hc4, hg4⟩
  have HS4 := hide (HS3.out.moved hg4 hc4)
  clear HS3 T2 hc4 hg4
  obtain ⟨f0, f1, f2, f3, ff⟩ := HS4.out.cells
  have HS5 : Hid (DecS w (w4.setCell ⟨F, 1, none⟩ (.int .i64 x1)) b off n cap F 12 zs x0 x1 0 (.slice none 0 0) .nilIface) := hide (HS4.out.set1 x1)
  clear HS4
  go_wp2_with fail
  generalize w4.setCell ⟨F, 1, none⟩ (.int .i64 x1) = V5 at *
  have t3 := take2 (w.heap.size + 1) 12 n cap b off zs V5 HS5.out.2.1 (by omega) (by omega) hc HN.out HS5.out.2.2.2.1 (by omega)
  rw [← HX2.out] at t3
  have T3 := hide t3
  clear t3 f0 f1 f2 f3 ff
  refine T3.out.mono ?_
  rintro e w6 ⟨rfl, hc6, hg6⟩
  have HS6 := hide (HS5.out.moved hg6 hc6)
  clear HS5 T3 hc6 hg6
  obtain ⟨f0, f1, f2, f3, ff⟩ := HS6.out.cells
  have HS7 : Hid (DecS w (w6.setCell ⟨F, 2, none⟩ (.int .i64 x2)) b off n cap F 14 zs x0 x1 x2 (.slice none 0 0) .nilIface) := hide (HS6.out.set2 x2)
  clear HS6
  go_wp2_with fail
  generalize w6.setCell ⟨F, 2, none⟩ (.int .i64 x2) = V7 at *
  have l1 := left_walk (w.heap.size + 1) 14 n cap (some ⟨b, off, none⟩) .nilIface V7 HS7.out.2.1 (by omega) (by omega)
  have L1 := hide l1
  clear l1 f0 f1 f2 f3 ff
  refine L1.out.mono ?_
  rintro e w8 ⟨rfl, m8, rfl⟩
  have HS8 := hide (HS7.out.drewN m8)
  clear HS7 L1
  generalize V7.drewN m8 = V8 at *
  have tb := takeBytes_ok (w.heap.size + 1) 14 n cap b off (n - 18) zs V8 HS8.out.2.1 (by omega) (by omega) (by omega) hc HN.out HS8.out.2.2.2.1 (by omega)
  rw [← HPS.out, show ((n - 18 : Nat) : Int) = (n : Int) - 14 - 4 by omega] at tb
  have TB := hide tb
  clear tb
  go_wp2_with fail
  refine TB.out.mono ?_
  rintro e w9 ⟨v, rfl, hO9, hc9, hg9⟩
  obtain ⟨B, hB⟩ : ∃ B, B = V8.heap.size := ⟨_, rfl⟩
  have hFB : F < B := by rw [hB]; exact HS8.out.2.2.1.lt
  have hwB : w.heap.size ≤ B := by omega
  rw [← hB] at hO9
  clear hB
  obtain ⟨P, hP⟩ : ∃ P, P = 14 + (n - 18) := ⟨_, rfl⟩
  rw [← hP] at hc9
  have hP1 : P + 4 ≤ n := by omega
  have hP2 : n ≤ P + 4 := by omega
  clear hP
  have HS9 := hide (HS8.out.moved hg9 hc9)
  obtain ⟨f0, f1, f2, f3, ff⟩ := HS9.out.cells
  have HS10 := hide (HS9.out.set3 v)
  have HO10 := hide (hO9.setBelow (a := ⟨F, 3, none⟩) hFB v)
  obtain ⟨av, cv, hv, _, _⟩ := hO9.arr
  subst hv
  clear HS8 HS9 TB hc9 hg9 hO9
  go_wp2_with fail
  generalize w9.setCell ⟨F, 3, none⟩ (.slice av ps.length cv) = V10 at *
  have PA := hide (passed_walk (w.heap.size + 1) P n cap b off .nilIface V10 HS10.out.2.1 (by omega) (by omega))
  clear f0 f1 f2 f3 ff
  refine PA.out.mono ?_
  rintro e w11 ⟨rfl, m11, rfl⟩
  have HS11 := hide (HS10.out.drewN m11)
  have HO11 : Hid (OwnB (V10.drewN m11) B (.slice av ps.length cv) ps) := hide HO10.out
  clear HS10 HO10 PA
  generalize V10.drewN m11 = V11 at *
  have FS := hide (frameSum_walk (some ⟨b, off, none⟩) P cap (zs.take P) V11 (by rw [List.length_take, HN.out]; omega) (HS11.out.2.2.2.1.take P) (by omega))
  have SE := sum_eq zs n P HN.out (by omega) HS11.out.2.2.2.1.1
  rw [HSUM.out] at SE
  have t4 := take4 (w.heap.size + 1) P n cap b off zs V11 HS11.out.2.1 (by omega) (by omega) hc HN.out HS11.out.2.2.2.1 (by omega)
  generalize rev32 (sumOf (zs.take P)) = y0 at *
  generalize tnum ((zs.drop P).take 4) = y1 at *
  have T4 := hide t4
  clear t4
  go_wp2_with fail
  refine FS.out.mono ?_
  rintro e w12 ⟨rfl, hw12⟩
  rw [hw12]
  clear hw12 FS
  go_wp2_with fail
  refine T4.out.mono ?_
  rintro e w13 ⟨rfl, hc13, hg13⟩
  have HO13 := hide (HO11.out.aside hg13 (by omega))
  have HS13 := hide (HS11.out.moved hg13 hc13)
  clear HS11 HO11 T4 hc13 hg13
  go_wp2_with fail
  refine (demand_yes (w.heap.size + 1) (P + 4) _ 3 w13 HS13.out.2.1).mono ?_
  rintro e w14 ⟨rfl, hw14⟩
  rw [hw14]
  clear hw14
  obtain ⟨c0, c1, c2, cf⟩ := HS13.out.2.1.cells
  have HTD := hide (HS13.out.next ((Below.refl _ _).drew))
  have CA := hide (ansFrame_nil (x0) (x1) (x2) av ps.length cv w13.drew)
  have HK : Hid (w13.drew.cell? ⟨F, 0, none⟩ = some (.int .i64 x0) ∧ w13.drew.cell? ⟨F, 1, none⟩ = some (.int .i64 x1) ∧ w13.drew.cell? ⟨F, 2, none⟩ = some (.int .i64 x2) ∧ w13.drew.cell? ⟨F, 3, none⟩ = some (.slice av ps.length cv) ∧ w13.drew.cell? ⟨w.heap.size + 1, 2, none⟩ = some .nilIface) := hide ⟨HTD.out.cells.1, HTD.out.cells.2.1, HTD.out.cells.2.2.1, HTD.out.cells.2.2.2.1, HTD.out.2.1.cells.2.2.1⟩
  have hRF : w.heap.size ≠ F := by first | (have h9 := HTD.out.2.2.2.2.2; omega) | (have h9 := HTD.out.2.2.2; omega)
  have hRC : w.heap.size ≠ w.heap.size + 1 := by omega
  clear c0 c1 c2 cf HS13
  go_wp2_with fail
  go_region_held3 (fun w' => w'.cell? ⟨F, 0, none⟩ = some (.int .i64 x0) ∧ w'.cell? ⟨F, 1, none⟩ = some (.int .i64 x1) ∧ w'.cell? ⟨F, 2, none⟩ = some (.int .i64 x2) ∧ w'.cell? ⟨F, 3, none⟩ = some (.slice av ps.length cv) ∧ w'.cell? ⟨w.heap.size + 1, 2, none⟩ = some .nilIface) (first | with_reducible assumption | with_reducible exact HK.out | exact ⟨far4 hRF hk9.1, far4 hRF hk9.2.1, far4 hRF hk9.2.2.1, far4 hRF hk9.2.2.2.1, far4 hRC hk9.2.2.2.2⟩)
    ((go_at_call 49; refine CA.out.mono ?_; rintro e w88 ⟨rfl, hb88⟩; have hk9 : w88.cell? ⟨F, 0, none⟩ = some (.int .i64 x0) ∧ w88.cell? ⟨F, 1, none⟩ = some (.int .i64 x1) ∧ w88.cell? ⟨F, 2, none⟩ = some (.int .i64 x2) ∧ w88.cell? ⟨F, 3, none⟩ = some (.slice av ps.length cv) ∧ w88.cell? ⟨w.heap.size + 1, 2, none⟩ = some .nilIface := ⟨(HTD.out.next hb88).cells.1, (HTD.out.next hb88).cells.2.1, (HTD.out.next hb88).cells.2.2.1, (HTD.out.next hb88).cells.2.2.2.1, (HTD.out.next hb88).2.1.cells.2.2.1⟩; obtain ⟨d0, d1, d2, d3, df⟩ := (HTD.out.next hb88).1.cells))
  all_goals
    have HS15 := hide (HTD.out.next hb88)
    have HRES := hide HS15.out.1.1
    have HO15 := hide (HO13.out.drew.next hb88)
    have hlt : w.heap.size < B := by omega
    clear hb88 HTD CA HK hk9
    go_wp2_with fail
    exact bodyPost_ret (v := .tuple #[.agg #[.int .i64 x0, .int .i64 x1, .int .i64 x2, .slice av ps.length cv], .int .i64 0]) (by simp [results, Tryd.results13, go_sem, d0, d1, d2, d3]) rfl ⟨.slice av ps.length cv, rfl, HO15.out.four hlt, below_four HRES.out⟩
set_option maxHeartbeats 4000000 in
theorem implDec_sum (b off n cap : Nat) (zs : List Int) (w : World) (hn : zs.length = n) (ha : Arr w (some ⟨b, off, none⟩) zs) (h0 : 18 ≤ n) (h1 : n ≤ 1518) (hc : n ≤ cap) (hs : sumB zs = false) (he : ErrT w) :
    Calls Tryd.prog 13 #[.slice (some ⟨b, off, none⟩) n cap] w fun r w' => r = .returned (.tuple #[.agg #[.int .i64 0, .int .i64 0, .int .i64 0, .slice none 0 0], .int .i64 3]) ∧ Below w.heap.size w w' := by
  obtain ⟨x0, hx0⟩ : ∃ x, x = tnum (zs.take 6) := ⟨_, rfl⟩
  obtain ⟨x1, hx1⟩ : ∃ x, x = tnum ((zs.drop 6).take 6) := ⟨_, rfl⟩
  obtain ⟨x2, hx2⟩ : ∃ x, x = tnum ((zs.drop 12).take 2) := ⟨_, rfl⟩
  obtain ⟨ps, hps⟩ : ∃ x, x = (zs.drop 14).take (n - 18) := ⟨_, rfl⟩
  have HX0 := hide hx0
  have HX1 := hide hx1
  have HX2 := hide hx2
  have HPS := hide hps
  clear hx0 hx1 hx2 hps
  have hi0 : (18 : Int) ≤ (n : Int) := by omega
  have hi1 : (n : Int) ≤ 1518 := by omega
  have hblt : b < w.heap.size := by
    obtain ⟨b', o', e, hlt, _⟩ := ha.2 0 (by omega)
    cases e
    exact hlt
  have HF := hide (decW_facts w (.slice (some ⟨b, off, none⟩) n cap))
  have HA := hide ha
  have HN := hide hn
  have HSUM := hide hs
  have HE := hide he
  clear he
  clear ha hn hs
  go_enter Tryd.func13, Tryd.ntmps13
  go_wp2_with fail
  have CD := hide (fun code => demand_yes (w.heap.size + 1) 0 (.slice (some ⟨b, off, none⟩) n cap) code _ HF.out.2.1)
  have HR0 := hide HF.out.1
  have HC0 := hide HF.out.2.1
  have HZ0 := hide HF.out.2.2
  clear HF
  generalize hW : decW w (.slice (some ⟨b, off, none⟩) n cap) = W at *
  unfold decW at hW
  rw [hW]
  clear hW
  refine (CD.out _).mono ?_
  rintro e w1 ⟨rfl, hw1⟩
  rw [hw1]
  clear hw1
  go_wp2_with fail
  refine (CD.out _).mono ?_
  rintro e w1 ⟨rfl, hw1⟩
  rw [hw1]
  clear hw1 CD
  have hal := (Below.refl W.heap.size W).alloc (Nat.le_refl _) (.cells #[.int .i64 0, .int .i64 0, .int .i64 0, .slice none 0 0] 32)
  have hS : DecS w (W.alloc (.cells #[.int .i64 0, .int .i64 0, .int .i64 0, .slice none 0 0] 32)) b off n cap W.heap.size 0 zs 0 0 0 (.slice none 0 0) .nilIface :=
    ⟨HR0.out.next hal, HC0.out.below hal HC0.out.lt, heap_alloc_new _ _, HA.out.below (HR0.out.1.trans (hal.mono HR0.out.1.size)) (Nat.le_refl _), hblt, by have := HZ0.out; omega⟩
  have HS := hide hS
  clear hS hal HR0 HC0 HZ0 HA
  go_wp2_with fail
  generalize hV : W.alloc (.cells #[.int .i64 0, .int .i64 0, .int .i64 0, .slice none 0 0] 32) = V at *
  clear hV
  generalize W.heap.size = F at *
  have hCF := HS.out.2.2.2.2.2
  have t1 := take6 (w.heap.size + 1) 0 n cap b off zs V HS.out.2.1 (by omega) (by omega) hc HN.out HS.out.2.2.2.1 (by omega)
  rw [show tnum ((zs.drop 0).take 6) = x0 from HX0.out.symm] at t1
  have T1 := hide t1
  clear t1
  refine T1.out.mono ?_
  rintro e w2 ⟨rfl, hc2, hg2⟩
  have HS2 := hide (HS.out.moved hg2 hc2)
  clear HS T1 hc2 hg2
  obtain ⟨f0, f1, f2, f3, ff⟩ := HS2.out.cells
  have HS3 : Hid (DecS w (w2.setCell ⟨F, 0, none⟩ (.int .i64 x0)) b off n cap F 6 zs x0 0 0 (.slice none 0 0) .nilIface) := hide (HS2.out.set0 x0)
  clear HS2
  go_wp2_with fail
  generalize w2.setCell ⟨F, 0, none⟩ (.int .i64 x0) = V3 at *
  have t2 := take6 (w.heap.size + 1) 6 n cap b off zs V3 HS3.out.2.1 (by omega) (by omega) hc HN.out HS3.out.2.2.2.1 (by omega)
  rw [← HX1.out] at t2
  have T2 := hide t2
  clear t2 f0 f1 f2 f3 ff
  refine T2.out.mono ?_
  rintro e w4 ⟨rfl, hc4, hg4⟩
  have HS4 := hide (HS3.out.moved hg4 hc4)
  clear HS3 T2 hc4 hg4
  obtain ⟨f0, f1, f2, f3, ff⟩ := HS4.out.cells
  have HS5 : Hid (DecS w (w4.setCell ⟨F, 1, none⟩ (.int .i64 x1)) b off n cap F 12 zs x0 x1 0 (.slice none 0 0) .nilIface) := hide (HS4.out.set1 x1)
  clear HS4
  go_wp2_with fail
  generalize w4.setCell ⟨F, 1, none⟩ (.int .i64 x1) = V5 at *
  have t3 := take2 (w.heap.size + 1) 12 n cap b off zs V5 HS5.out.2.1 (by omega) (by omega) hc HN.out HS5.out.2.2.2.1 (by omega)
  rw [← HX2.out] at t3
  have T3 := hide t3
  clear t3 f0 f1 f2 f3 ff
  refine T3.out.mono ?_
  rintro e w6 ⟨rfl, hc6, hg6⟩
  have HS6 := hide (HS5.out.moved hg6 hc6)
  clear HS5 T3 hc6 hg6
  obtain ⟨f0, f1, f2, f3, ff⟩ := HS6.out.cells
  have HS7 : Hid (DecS w (w6.setCell ⟨F, 2, none⟩ (.int .i64 x2)) b off n cap F 14 zs x0 x1 x2 (.slice none 0 0) .nilIface) := hide (HS6.out.set2 x2)
  clear HS6
  go_wp2_with fail
  generalize w6.setCell ⟨F, 2, none⟩ (.int .i64 x2) = V7 at *
  have l1 := left_walk (w.heap.size + 1) 14 n cap (some ⟨b, off, none⟩) .nilIface V7 HS7.out.2.1 (by omega) (by omega)
  have L1 := hide l1
  clear l1 f0 f1 f2 f3 ff
  refine L1.out.mono ?_
  rintro e w8 ⟨rfl, m8, rfl⟩
  have HS8 := hide (HS7.out.drewN m8)
  clear HS7 L1
  generalize V7.drewN m8 = V8 at *
  have tb := takeBytes_ok (w.heap.size + 1) 14 n cap b off (n - 18) zs V8 HS8.out.2.1 (by omega) (by omega) (by omega) hc HN.out HS8.out.2.2.2.1 (by omega)
  rw [← HPS.out, show ((n - 18 : Nat) : Int) = (n : Int) - 14 - 4 by omega] at tb
  have TB := hide tb
  clear tb
  go_wp2_with fail
  refine TB.out.mono ?_
  rintro e w9 ⟨v, rfl, hO9, hc9, hg9⟩
  obtain ⟨B, hB⟩ : ∃ B, B = V8.heap.size := ⟨_, rfl⟩
  have hFB : F < B := by rw [hB]; exact HS8.out.2.2.1.lt
  have hwB : w.heap.size ≤ B := by omega
  rw [← hB] at hO9
  clear hB
  obtain ⟨P, hP⟩ : ∃ P, P = 14 + (n - 18) := ⟨_, rfl⟩
  rw [← hP] at hc9
  have hP1 : P + 4 ≤ n := by omega
  have hP2 : n ≤ P + 4 := by omega
  clear hP
  have HS9 := hide (HS8.out.moved hg9 hc9)
  obtain ⟨f0, f1, f2, f3, ff⟩ := HS9.out.cells
  have HS10 := hide (HS9.out.set3 v)
  have HO10 := hide (hO9.setBelow (a := ⟨F, 3, none⟩) hFB v)
  obtain ⟨av, cv, hv, _, _⟩ := hO9.arr
  subst hv
  clear HS8 HS9 TB hc9 hg9 hO9
  go_wp2_with fail
  generalize w9.setCell ⟨F, 3, none⟩ (.slice av ps.length cv) = V10 at *
  have PA := hide (passed_walk (w.heap.size + 1) P n cap b off .nilIface V10 HS10.out.2.1 (by omega) (by omega))
  clear f0 f1 f2 f3 ff
  refine PA.out.mono ?_
  rintro e w11 ⟨rfl, m11, rfl⟩
  have HS11 := hide (HS10.out.drewN m11)
  have HO11 : Hid (OwnB (V10.drewN m11) B (.slice av ps.length cv) ps) := hide HO10.out
  clear HS10 HO10 PA
  generalize V10.drewN m11 = V11 at *
  have FS := hide (frameSum_walk (some ⟨b, off, none⟩) P cap (zs.take P) V11 (by rw [List.length_take, HN.out]; omega) (HS11.out.2.2.2.1.take P) (by omega))
  have SE := sum_eq zs n P HN.out (by omega) HS11.out.2.2.2.1.1
  rw [HSUM.out] at SE
  have t4 := take4 (w.heap.size + 1) P n cap b off zs V11 HS11.out.2.1 (by omega) (by omega) hc HN.out HS11.out.2.2.2.1 (by omega)
  generalize rev32 (sumOf (zs.take P)) = y0 at *
  generalize tnum ((zs.drop P).take 4) = y1 at *
  have T4 := hide t4
  clear t4
  go_wp2_with fail
  refine FS.out.mono ?_
  rintro e w12 ⟨rfl, hw12⟩
  rw [hw12]
  clear hw12 FS
  go_wp2_with fail
  refine T4.out.mono ?_
  rintro e w13 ⟨rfl, hc13, hg13⟩
  have HO13 := hide (HO11.out.aside hg13 (by omega))
  have HS13 := hide (HS11.out.moved hg13 hc13)
  clear HS11 HO11 T4 hc13 hg13
  go_wp2_with fail
  refine (demand_no (w.heap.size + 1) (P + 4) _ 3 w13 HS13.out.2.1).mono ?_
  rintro e w14 ⟨rfl, hc14, hg14⟩
  have HS14 := hide (HS13.out.moved hg14 hc14)
  clear hc14 hg14 HS13
  obtain ⟨c0, c1, c2, cf⟩ := HS14.out.2.1.cells
  have HTD := hide (HS14.out.next ((Below.refl _ _).drew))
  have CA := hide (ansFrame_err (x0) (x1) (x2) av ps.length cv 3 (by decide) w14.drew (HE.out.below HTD.out.1.1 (Nat.le_refl _)))
  have HK : Hid (w14.drew.cell? ⟨F, 0, none⟩ = some (.int .i64 x0) ∧ w14.drew.cell? ⟨F, 1, none⟩ = some (.int .i64 x1) ∧ w14.drew.cell? ⟨F, 2, none⟩ = some (.int .i64 x2) ∧ w14.drew.cell? ⟨F, 3, none⟩ = some (.slice av ps.length cv) ∧ w14.drew.cell? ⟨w.heap.size + 1, 2, none⟩ = some (wErr 3)) := hide ⟨HTD.out.cells.1, HTD.out.cells.2.1, HTD.out.cells.2.2.1, HTD.out.cells.2.2.2.1, HTD.out.2.1.cells.2.2.1⟩
  have hRF : w.heap.size ≠ F := by first | (have h9 := HTD.out.2.2.2.2.2; omega) | (have h9 := HTD.out.2.2.2; omega)
  have hRC : w.heap.size ≠ w.heap.size + 1 := by omega
  clear c0 c1 c2 cf HS14
  go_wp2_with fail
  go_region_held3 (fun w' => w'.cell? ⟨F, 0, none⟩ = some (.int .i64 x0) ∧ w'.cell? ⟨F, 1, none⟩ = some (.int .i64 x1) ∧ w'.cell? ⟨F, 2, none⟩ = some (.int .i64 x2) ∧ w'.cell? ⟨F, 3, none⟩ = some (.slice av ps.length cv) ∧ w'.cell? ⟨w.heap.size + 1, 2, none⟩ = some (wErr 3)) (first | with_reducible assumption | with_reducible exact HK.out | exact ⟨far4 hRF hk9.1, far4 hRF hk9.2.1, far4 hRF hk9.2.2.1, far4 hRF hk9.2.2.2.1, far4 hRC hk9.2.2.2.2⟩)
    ((go_at_call 49; refine CA.out.mono ?_; rintro e w88 ⟨rfl, hb88⟩; have hk9 : w88.cell? ⟨F, 0, none⟩ = some (.int .i64 x0) ∧ w88.cell? ⟨F, 1, none⟩ = some (.int .i64 x1) ∧ w88.cell? ⟨F, 2, none⟩ = some (.int .i64 x2) ∧ w88.cell? ⟨F, 3, none⟩ = some (.slice av ps.length cv) ∧ w88.cell? ⟨w.heap.size + 1, 2, none⟩ = some (wErr 3) := ⟨(HTD.out.next hb88).cells.1, (HTD.out.next hb88).cells.2.1, (HTD.out.next hb88).cells.2.2.1, (HTD.out.next hb88).cells.2.2.2.1, (HTD.out.next hb88).2.1.cells.2.2.1⟩; obtain ⟨d0, d1, d2, d3, df⟩ := (HTD.out.next hb88).1.cells))
  all_goals
    have HS15 := hide (HTD.out.next hb88)
    have HRES := hide HS15.out.1.1
    clear hb88 HTD CA HK hk9
    go_wp2_with fail
    exact bodyPost_ret (v := .tuple #[.agg #[.int .i64 0, .int .i64 0, .int .i64 0, .slice none 0 0], .int .i64 3]) (by simp [results, Tryd.results13, go_sem, d0, d1, d2, d3]) rfl ⟨rfl, below_four HRES.out⟩
end Go.Proofs.YthoinddlnmailaaDoor
