/-
Contracts of functions of this seat.
-/
import Derived.Test.YthoinddlnmailaaDoorRows
import Derived.WalkKit
import Derived.ProofKit
import Derived.OpenShut
import Derived.Test.YthoinddlnmailaaDoorEne
import Derived.Test.YthoinddlnmailaaDoorArd
import Derived.Deep.RegionHeld3
namespace Go.Proofs.YthoinddlnmailaaDoor
open Go.ChangeShapes Go.WideShapes Go.ChangeAt Go.RowKit
set_option linter.unusedVariables false
set_option maxRecDepth 100000
theorem far5 {w : World} {R F j : Nat} (h : R ≠ F) {v : Option Value} {x0 x1 x2 x3 x4 : Value} (k : w.cell? ⟨F, j, none⟩ = v) : (((((w.setCell ⟨R, 0, none⟩ x0).setCell ⟨R, 1, none⟩ x1).setCell ⟨R, 2, none⟩ x2).setCell ⟨R, 3, none⟩ x3).setCell ⟨R, 4, none⟩ x4).cell? ⟨F, j, none⟩ = v := (World.cell?_setCell_far _ _ _ _ h).trans ((World.cell?_setCell_far _ _ _ _ h).trans ((World.cell?_setCell_far _ _ _ _ h).trans ((World.cell?_setCell_far _ _ _ _ h).trans ((World.cell?_setCell_far _ _ _ _ h).trans (k)))))

/-- The state of DecodeArp: result's cells, cursor, the Arp, bytes. -/
def DecSA (w W : World) (b off n cap F p : Nat) (zs : List Int) (x0 x1 x2 x3 x4 : Int) (ev : Value) : Prop :=
  ResA w W ∧ Cur W (w.heap.size + 1) (.slice (some ⟨b, off, none⟩) n cap) p ev ∧ ArpAt W F x0 x1 x2 x3 x4 ∧ Arr W (some ⟨b, off, none⟩) zs ∧ b < w.heap.size ∧ w.heap.size + 1 < F
theorem ResA.kept {w0 w w' : World} {g : Nat} (h : ResA w0 w) (hg : w.grownBy w' (some g)) (hlt : w0.heap.size < g) : ResA w0 w' :=
  ⟨h.1.trans (grown_under hg (Nat.le_of_lt hlt) h.1.size), Nat.lt_of_lt_of_le h.2.1 hg.size, (hg.block _ h.2.1 (by intro e; cases e; omega)).trans h.2.2⟩
theorem ArpAt.kept {w w' : World} {F g : Nat} {x0 x1 x2 x3 x4 : Int} (h : ArpAt w F x0 x1 x2 x3 x4) (hg : w.grownBy w' (some g)) (hne : F ≠ g) : ArpAt w' F x0 x1 x2 x3 x4 := (hg.block F h.lt (by intro e; cases e; exact hne rfl)).trans h
theorem DecSA.moved {w W W' : World} {b off n cap F p q : Nat} {zs : List Int} {x0 x1 x2 x3 x4 : Int} {ev ev' : Value} (h : DecSA w W b off n cap F p zs x0 x1 x2 x3 x4 ev) (hg : W.grownBy W' (some (w.heap.size + 1))) (hc : Cur W' (w.heap.size + 1) (.slice (some ⟨b, off, none⟩) n cap) q ev') : DecSA w W' b off n cap F q zs x0 x1 x2 x3 x4 ev' := by
  obtain ⟨h1, h2, h3, h4, h5, h6⟩ := h
  exact ⟨h1.kept hg (by omega), hc, h3.kept hg (by omega), h4.aside hg (by omega), h5, h6⟩
theorem DecSA.next {w W W' : World} {b off n cap F p : Nat} {zs : List Int} {x0 x1 x2 x3 x4 : Int} {ev : Value} (h : DecSA w W b off n cap F p zs x0 x1 x2 x3 x4 ev) (hb : Below W.heap.size W W') : DecSA w W' b off n cap F p zs x0 x1 x2 x3 x4 ev := by
  obtain ⟨h1, h2, h3, h4, h5, h6⟩ := h
  exact ⟨h1.next hb, h2.below hb h2.lt, (hb.block F h3.lt).trans h3, h4.below hb (Nat.le_refl _), h5, h6⟩
theorem DecSA.cells {w W : World} {b off n cap F p : Nat} {zs : List Int} {x0 x1 x2 x3 x4 : Int} {ev : Value} (h : DecSA w W b off n cap F p zs x0 x1 x2 x3 x4 ev) : W.cell? ⟨F, 0, none⟩ = some (.int .i64 x0) ∧ W.cell? ⟨F, 1, none⟩ = some (.int .i64 x1) ∧ W.cell? ⟨F, 2, none⟩ = some (.int .i64 x2) ∧ W.cell? ⟨F, 3, none⟩ = some (.int .i64 x3) ∧ W.cell? ⟨F, 4, none⟩ = some (.int .i64 x4) ∧ ∀ o, W.frozen? ⟨F, o, none⟩ = false := five_cells h.2.2.1
theorem DecSA.other {w W : World} {b off n cap F p i : Nat} {zs : List Int} {x0 x1 x2 x3 x4 y0 y1 y2 y3 y4 : Int} {ev : Value} (h : DecSA w W b off n cap F p zs x0 x1 x2 x3 x4 ev) (x : Value) (hf : ArpAt (W.setCell ⟨F, i, none⟩ x) F y0 y1 y2 y3 y4) : DecSA w (W.setCell ⟨F, i, none⟩ x) b off n cap F p zs y0 y1 y2 y3 y4 ev := by
  obtain ⟨h1, h2, h3, h4, h5, h6⟩ := h
  have hg := grown_cell W F i x
  exact ⟨h1.kept hg (by omega), h2.kept hg (by intro e; cases e; omega), hf, h4.aside hg (by omega), h5, h6⟩
theorem DecSA.set0 {w W : World} {b off n cap F p : Nat} {zs : List Int} {x0 x1 x2 x3 x4 : Int} {ev : Value} (h : DecSA w W b off n cap F p zs x0 x1 x2 x3 x4 ev) (y : Int) : DecSA w (W.setCell ⟨F, 0, none⟩ (.int .i64 y)) b off n cap F p zs y x1 x2 x3 x4 ev := h.other _ (heap_setCell_same W F 0 _ _ _ h.2.2.1)
theorem DecSA.set1 {w W : World} {b off n cap F p : Nat} {zs : List Int} {x0 x1 x2 x3 x4 : Int} {ev : Value} (h : DecSA w W b off n cap F p zs x0 x1 x2 x3 x4 ev) (y : Int) : DecSA w (W.setCell ⟨F, 1, none⟩ (.int .i64 y)) b off n cap F p zs x0 y x2 x3 x4 ev := h.other _ (heap_setCell_same W F 1 _ _ _ h.2.2.1)
theorem DecSA.set2 {w W : World} {b off n cap F p : Nat} {zs : List Int} {x0 x1 x2 x3 x4 : Int} {ev : Value} (h : DecSA w W b off n cap F p zs x0 x1 x2 x3 x4 ev) (y : Int) : DecSA w (W.setCell ⟨F, 2, none⟩ (.int .i64 y)) b off n cap F p zs x0 x1 y x3 x4 ev := h.other _ (heap_setCell_same W F 2 _ _ _ h.2.2.1)
theorem DecSA.set3 {w W : World} {b off n cap F p : Nat} {zs : List Int} {x0 x1 x2 x3 x4 : Int} {ev : Value} (h : DecSA w W b off n cap F p zs x0 x1 x2 x3 x4 ev) (y : Int) : DecSA w (W.setCell ⟨F, 3, none⟩ (.int .i64 y)) b off n cap F p zs x0 x1 x2 y x4 ev := h.other _ (heap_setCell_same W F 3 _ _ _ h.2.2.1)
theorem DecSA.set4 {w W : World} {b off n cap F p : Nat} {zs : List Int} {x0 x1 x2 x3 x4 : Int} {ev : Value} (h : DecSA w W b off n cap F p zs x0 x1 x2 x3 x4 ev) (y : Int) : DecSA w (W.setCell ⟨F, 4, none⟩ (.int .i64 y)) b off n cap F p zs x0 x1 x2 x3 y ev := h.other _ (heap_setCell_same W F 4 _ _ _ h.2.2.1)
/-- The state of DecodeArp behind an error. -/
def DecEA (w W : World) (a : Option Addr) (n cap F p : Nat) (c x0 x1 x2 x3 x4 : Int) : Prop :=
  ResA w W ∧ Cur W (w.heap.size + 1) (.slice a n cap) p (wErr c) ∧ ArpAt W F x0 x1 x2 x3 x4 ∧ w.heap.size + 1 < F
theorem DecEA.next {w W W' : World} {a : Option Addr} {n cap F p : Nat} {c x0 x1 x2 x3 x4 : Int} (h : DecEA w W a n cap F p c x0 x1 x2 x3 x4) (hb : Below W.heap.size W W') : DecEA w W' a n cap F p c x0 x1 x2 x3 x4 := by
  obtain ⟨h1, h2, h3, h6⟩ := h
  exact ⟨h1.next hb, h2.below hb h2.lt, (hb.block F h3.lt).trans h3, h6⟩
theorem DecEA.drewN {w W : World} {a : Option Addr} {n cap F p : Nat} {c x0 x1 x2 x3 x4 : Int} (h : DecEA w W a n cap F p c x0 x1 x2 x3 x4) (m : Nat) : DecEA w (W.drewN m) a n cap F p c x0 x1 x2 x3 x4 := h.next (below_drewN (Below.refl _ _) m)
theorem DecEA.cells {w W : World} {a : Option Addr} {n cap F p : Nat} {c x0 x1 x2 x3 x4 : Int} (h : DecEA w W a n cap F p c x0 x1 x2 x3 x4) : W.cell? ⟨F, 0, none⟩ = some (.int .i64 x0) ∧ W.cell? ⟨F, 1, none⟩ = some (.int .i64 x1) ∧ W.cell? ⟨F, 2, none⟩ = some (.int .i64 x2) ∧ W.cell? ⟨F, 3, none⟩ = some (.int .i64 x3) ∧ W.cell? ⟨F, 4, none⟩ = some (.int .i64 x4) ∧ ∀ o, W.frozen? ⟨F, o, none⟩ = false := five_cells h.2.2.1
theorem DecEA.other {w W : World} {a : Option Addr} {n cap F p i : Nat} {c x0 x1 x2 x3 x4 y0 y1 y2 y3 y4 : Int} (h : DecEA w W a n cap F p c x0 x1 x2 x3 x4) (x : Value) (hf : ArpAt (W.setCell ⟨F, i, none⟩ x) F y0 y1 y2 y3 y4) : DecEA w (W.setCell ⟨F, i, none⟩ x) a n cap F p c y0 y1 y2 y3 y4 := by
  obtain ⟨h1, h2, h3, h6⟩ := h
  have hg := grown_cell W F i x
  exact ⟨h1.kept hg (by omega), h2.kept hg (by intro e; cases e; omega), hf, h6⟩
theorem DecEA.set0 {w W : World} {a : Option Addr} {n cap F p : Nat} {c x0 x1 x2 x3 x4 : Int} (h : DecEA w W a n cap F p c x0 x1 x2 x3 x4) (y : Int) : DecEA w (W.setCell ⟨F, 0, none⟩ (.int .i64 y)) a n cap F p c y x1 x2 x3 x4 := h.other _ (heap_setCell_same W F 0 _ _ _ h.2.2.1)
theorem DecEA.set1 {w W : World} {a : Option Addr} {n cap F p : Nat} {c x0 x1 x2 x3 x4 : Int} (h : DecEA w W a n cap F p c x0 x1 x2 x3 x4) (y : Int) : DecEA w (W.setCell ⟨F, 1, none⟩ (.int .i64 y)) a n cap F p c x0 y x2 x3 x4 := h.other _ (heap_setCell_same W F 1 _ _ _ h.2.2.1)
theorem DecEA.set2 {w W : World} {a : Option Addr} {n cap F p : Nat} {c x0 x1 x2 x3 x4 : Int} (h : DecEA w W a n cap F p c x0 x1 x2 x3 x4) (y : Int) : DecEA w (W.setCell ⟨F, 2, none⟩ (.int .i64 y)) a n cap F p c x0 x1 y x3 x4 := h.other _ (heap_setCell_same W F 2 _ _ _ h.2.2.1)
theorem DecEA.set3 {w W : World} {a : Option Addr} {n cap F p : Nat} {c x0 x1 x2 x3 x4 : Int} (h : DecEA w W a n cap F p c x0 x1 x2 x3 x4) (y : Int) : DecEA w (W.setCell ⟨F, 3, none⟩ (.int .i64 y)) a n cap F p c x0 x1 x2 y x4 := h.other _ (heap_setCell_same W F 3 _ _ _ h.2.2.1)
theorem DecEA.set4 {w W : World} {a : Option Addr} {n cap F p : Nat} {c x0 x1 x2 x3 x4 : Int} (h : DecEA w W a n cap F p c x0 x1 x2 x3 x4) (y : Int) : DecEA w (W.setCell ⟨F, 4, none⟩ (.int .i64 y)) a n cap F p c x0 x1 x2 x3 y := h.other _ (heap_setCell_same W F 4 _ _ _ h.2.2.1)
abbrev decAW (w : World) (v : Value) : World := (w.alloc (.cells #[.int .i64 0, .int .i64 0, .int .i64 0, .int .i64 0, .int .i64 0] 44)).alloc (.cells #[v, .int .i64 0, .nilIface] 66)
theorem decAW_facts (w : World) (v : Value) : ResA w (decAW w v) ∧ Cur (decAW w v) (w.heap.size + 1) v 0 .nilIface ∧ (decAW w v).heap.size = w.heap.size + 2 := by
  have hs := World.size_alloc w (.cells #[.int .i64 0, .int .i64 0, .int .i64 0, .int .i64 0, .int .i64 0] 44)
  refine ⟨(ResA.start w).next ((Below.refl _ _).alloc (Nat.le_refl _) _), ?_, by rw [World.size_alloc, hs]⟩
  unfold Cur
  rw [← hs]
  exact heap_alloc_new _ _
theorem head_num (zs : List Int) (hl : 6 ≤ zs.length) (hz : ∀ z ∈ zs, 0 ≤ z ∧ z ≤ 255) : (tnum (zs.take 6) == 4429186564) = decide (zs.take 6 = arHead) := by
  match zs, hl, hz with
  | a :: b :: c :: d :: e :: f :: r, _, hz =>
    have h0 := hz a (by simp)
    have h1 := hz b (by simp)
    have h2 := hz c (by simp)
    have h3 := hz d (by simp)
    have h4 := hz e (by simp)
    have h5 := hz f (by simp)
    have e0 : (a :: b :: c :: d :: e :: f :: r).take 6 = [a, b, c, d, e, f] := rfl
    rw [e0]
    have e1 : tnum [a, b, c, d, e, f] = ((((a * 256 + b) * 256 + c) * 256 + d) * 256 + e) * 256 + f := by simp [tnum]
    rw [e1]
    have e2 : ([a, b, c, d, e, f] = arHead) ↔ (a = 0 ∧ b = 1 ∧ c = 8 ∧ d = 0 ∧ e = 6 ∧ f = 4) := by unfold arHead; simp
    rw [Bool.eq_iff_iff]
    simp only [beq_iff_eq, decide_eq_true_eq, e2]
    constructor
    · intro h; omega
    · rintro ⟨rfl, rfl, rfl, rfl, rfl, rfl⟩; rfl
theorem opNum (x : Int) : opB x = (decide (x = 1) || decide (x = 2)) := rfl
set_option maxHeartbeats 4000000 in
theorem implDecA_short (a : Option Addr) (n cap : Nat) (w : World) (h : n < 28) (hm : n ≤ 1048576) (he : ErrT w) :
    Calls Tryd.prog 23 #[.slice a n cap] w fun r w' => r = .returned (.tuple #[.agg #[.int .i64 0, .int .i64 0, .int .i64 0, .int .i64 0, .int .i64 0], .int .i64 2]) ∧ Below w.heap.size w w' := by
  have hd : decide ((28 : Int) ≤ (n : Int)) = false := decide_eq_false (by omega)
  have HF := hide (decAW_facts w (.slice a n cap))
  have HE := hide he
  clear he
  go_enter Tryd.func23, Tryd.ntmps23
  go_wp2_with fail
  have CD := hide (fun code => demand_yes (w.heap.size + 1) 0 (.slice a n cap) code _ HF.out.2.1)
  have CN := hide (fun code => demand_no (w.heap.size + 1) 0 (.slice a n cap) code _ HF.out.2.1)
  have HR0 := hide HF.out.1
  have HC0 := hide HF.out.2.1
  have HZ0 := hide HF.out.2.2
  clear HF
  generalize hW : decAW w (.slice a n cap) = W at *
  unfold decAW at hW
  rw [hW]
  clear hW
  refine (CN.out _).mono ?_
  rintro e w1 ⟨rfl, hc1, hg1⟩
  have HC1 := hide hc1
  have HR1 := hide (HR0.out.kept hg1 (by omega))
  have hz1 : w.heap.size + 2 ≤ w1.heap.size := by have := hg1.size; have := HZ0.out; omega
  clear hc1 hg1 HR0 HZ0 HC0 CD CN
  go_wp2_with fail
  refine (demand_err (w.heap.size + 1) 0 _ 2 _ _ w1 HC1.out).mono ?_
  rintro e w0 ⟨rfl, hw0⟩
  rw [hw0]
  clear hw0
  go_wp2_with fail
  refine (take_err (w.heap.size + 1) 0 n cap _ 2 6 w1 HC1.out (by omega) (by omega) (by omega) (by omega)).mono ?_
  rintro e w0 ⟨rfl, mm, rfl⟩
  have HC1' : Hid (Cur (w1.drewN mm) _ _ _ _) := hide HC1.out
  have HR1' := hide (HR1.out.next (below_drewN (Below.refl _ _) mm))
  have hz1' : w.heap.size + 2 ≤ (w1.drewN mm).heap.size := hz1
  clear HC1 HR1 hz1
  generalize w1.drewN mm = w2 at *
  have HC1 := HC1'
  have HR1 := HR1'
  have hz1 := hz1'
  clear HC1' HR1' hz1'
  go_wp2_with fail
  refine (demand_err (w.heap.size + 1) 0 _ 2 _ _ w2 HC1.out).mono ?_
  rintro e w0 ⟨rfl, hw0⟩
  rw [hw0]
  clear hw0
  have hal := (Below.refl w2.heap.size w2).alloc (Nat.le_refl _) (.cells #[.int .i64 0, .int .i64 0, .int .i64 0, .int .i64 0, .int .i64 0] 44)
  have hS : DecEA w (w2.alloc (.cells #[.int .i64 0, .int .i64 0, .int .i64 0, .int .i64 0, .int .i64 0] 44)) a n cap w2.heap.size 0 2 0 0 0 0 0 :=
    ⟨HR1.out.next hal, HC1.out.below hal HC1.out.lt, heap_alloc_new _ _, by omega⟩
  have HS := hide hS
  clear hS hal HR1 HC1
  go_wp2_with fail
  generalize hV : w2.alloc (.cells #[.int .i64 0, .int .i64 0, .int .i64 0, .int .i64 0, .int .i64 0] 44) = V at *
  clear hV
  generalize w2.heap.size = F at *
  refine (take_err (w.heap.size + 1) _ n cap _ 2 2 V HS.out.2.1 (by omega) (by omega) (by omega) (by omega)).mono ?_
  rintro e u0 ⟨rfl, m0, rfl⟩
  have HT0 := hide (HS.out.drewN m0)
  clear HS
  generalize V.drewN m0 = U0 at *
  obtain ⟨f0, f1, f2, f3, f4, ff⟩ := HT0.out.cells
  have HS := hide (HT0.out.set0 0)
  clear HT0
  go_wp2_with fail
  generalize hV : U0.setCell ⟨F, 0, none⟩ (.int .i64 0) = V0 at *
  clear hV f0 f1 f2 f3 f4 ff
  refine (isArpOp_walk _ _).mono ?_
  rintro e u ⟨rfl, hu⟩
  rw [hu]
  clear hu u
  go_wp2_with fail
  refine (demand_err (w.heap.size + 1) _ _ 2 _ _ V0 HS.out.2.1).mono ?_
  rintro e u ⟨rfl, hu⟩
  rw [hu]
  clear hu u
  go_wp2_with fail
  refine (take_err (w.heap.size + 1) _ n cap _ 2 6 V0 HS.out.2.1 (by omega) (by omega) (by omega) (by omega)).mono ?_
  rintro e u1 ⟨rfl, m1, rfl⟩
  have HT1 := hide (HS.out.drewN m1)
  clear HS
  generalize V0.drewN m1 = U1 at *
  obtain ⟨f0, f1, f2, f3, f4, ff⟩ := HT1.out.cells
  have HS := hide (HT1.out.set1 0)
  clear HT1
  go_wp2_with fail
  generalize hV : U1.setCell ⟨F, 1, none⟩ (.int .i64 0) = V1 at *
  clear hV f0 f1 f2 f3 f4 ff
  refine (take_err (w.heap.size + 1) _ n cap _ 2 4 V1 HS.out.2.1 (by omega) (by omega) (by omega) (by omega)).mono ?_
  rintro e u2 ⟨rfl, m2, rfl⟩
  have HT2 := hide (HS.out.drewN m2)
  clear HS
  generalize V1.drewN m2 = U2 at *
  obtain ⟨f0, f1, f2, f3, f4, ff⟩ := HT2.out.cells
  have HS := hide (HT2.out.set2 0)
  clear HT2
  go_wp2_with fail
  generalize hV : U2.setCell ⟨F, 2, none⟩ (.int .i64 0) = V2 at *
  clear hV f0 f1 f2 f3 f4 ff
  refine (take_err (w.heap.size + 1) _ n cap _ 2 6 V2 HS.out.2.1 (by omega) (by omega) (by omega) (by omega)).mono ?_
  rintro e u3 ⟨rfl, m3, rfl⟩
  have HT3 := hide (HS.out.drewN m3)
  clear HS
  generalize V2.drewN m3 = U3 at *
  obtain ⟨f0, f1, f2, f3, f4, ff⟩ := HT3.out.cells
  have HS := hide (HT3.out.set3 0)
  clear HT3
  go_wp2_with fail
  generalize hV : U3.setCell ⟨F, 3, none⟩ (.int .i64 0) = V3 at *
  clear hV f0 f1 f2 f3 f4 ff
  refine (take_err (w.heap.size + 1) _ n cap _ 2 4 V3 HS.out.2.1 (by omega) (by omega) (by omega) (by omega)).mono ?_
  rintro e u4 ⟨rfl, m4, rfl⟩
  have HT4 := hide (HS.out.drewN m4)
  clear HS
  generalize V3.drewN m4 = U4 at *
  obtain ⟨f0, f1, f2, f3, f4, ff⟩ := HT4.out.cells
  have HS := hide (HT4.out.set4 0)
  clear HT4
  obtain ⟨c0, c1, c2, cf⟩ := HS.out.2.1.cells
  go_wp2_with fail
  generalize hV : U4.setCell ⟨F, 4, none⟩ (.int .i64 0) = V4 at *
  clear hV f0 f1 f2 f3 f4 ff
  have HTD := hide (HS.out.next ((Below.refl _ _).drew))
  have CA := hide (ansArp_err (0) (0) (0) (0) (0) 2 (by decide) V4.drew (HE.out.below HTD.out.1.1 (Nat.le_refl _)))
  have HK : Hid (V4.drew.cell? ⟨F, 0, none⟩ = some (.int .i64 0) ∧ V4.drew.cell? ⟨F, 1, none⟩ = some (.int .i64 0) ∧ V4.drew.cell? ⟨F, 2, none⟩ = some (.int .i64 0) ∧ V4.drew.cell? ⟨F, 3, none⟩ = some (.int .i64 0) ∧ V4.drew.cell? ⟨F, 4, none⟩ = some (.int .i64 0) ∧ V4.drew.cell? ⟨w.heap.size + 1, 2, none⟩ = some (wErr 2)) := hide ⟨HTD.out.cells.1, HTD.out.cells.2.1, HTD.out.cells.2.2.1, HTD.out.cells.2.2.2.1, HTD.out.cells.2.2.2.2.1, HTD.out.2.1.cells.2.2.1⟩
  have hRF : w.heap.size ≠ F := by first | (have h9 := HTD.out.2.2.2.2.2; omega) | (have h9 := HTD.out.2.2.2; omega)
  have hRC : w.heap.size ≠ w.heap.size + 1 := by omega
  clear c0 c1 c2 cf HS
  go_region_held3 (fun w' => w'.cell? ⟨F, 0, none⟩ = some (.int .i64 0) ∧ w'.cell? ⟨F, 1, none⟩ = some (.int .i64 0) ∧ w'.cell? ⟨F, 2, none⟩ = some (.int .i64 0) ∧ w'.cell? ⟨F, 3, none⟩ = some (.int .i64 0) ∧ w'.cell? ⟨F, 4, none⟩ = some (.int .i64 0) ∧ w'.cell? ⟨w.heap.size + 1, 2, none⟩ = some (wErr 2)) (first | with_reducible assumption | with_reducible exact HK.out | exact ⟨far5 hRF hk9.1, far5 hRF hk9.2.1, far5 hRF hk9.2.2.1, far5 hRF hk9.2.2.2.1, far5 hRF hk9.2.2.2.2.1, far5 hRC hk9.2.2.2.2.2⟩)
    ((go_at_call 57; refine CA.out.mono ?_; rintro e w88 ⟨rfl, hb88⟩; have hk9 : w88.cell? ⟨F, 0, none⟩ = some (.int .i64 0) ∧ w88.cell? ⟨F, 1, none⟩ = some (.int .i64 0) ∧ w88.cell? ⟨F, 2, none⟩ = some (.int .i64 0) ∧ w88.cell? ⟨F, 3, none⟩ = some (.int .i64 0) ∧ w88.cell? ⟨F, 4, none⟩ = some (.int .i64 0) ∧ w88.cell? ⟨w.heap.size + 1, 2, none⟩ = some (wErr 2) := ⟨(HTD.out.next hb88).cells.1, (HTD.out.next hb88).cells.2.1, (HTD.out.next hb88).cells.2.2.1, (HTD.out.next hb88).cells.2.2.2.1, (HTD.out.next hb88).cells.2.2.2.2.1, (HTD.out.next hb88).2.1.cells.2.2.1⟩; obtain ⟨d0, d1, d2, d3, d4, df⟩ := (HTD.out.next hb88).1.cells))
  all_goals
    have HS9 := hide (HTD.out.next hb88)
    have HRES := hide HS9.out.1.1
    clear hb88 HTD CA HK hk9
    go_wp2_with fail
    exact bodyPost_ret (v := .tuple #[.agg #[.int .i64 0, .int .i64 0, .int .i64 0, .int .i64 0, .int .i64 0], .int .i64 2]) (by simp [results, Tryd.results23, go_sem, d0, d1, d2, d3, d4]) rfl ⟨rfl, below_five HRES.out⟩
set_option maxHeartbeats 4000000 in
theorem implDecA_long (a : Option Addr) (n cap : Nat) (w : World) (h : 28 < n) (hm : n ≤ 1048576) (he : ErrT w) :
    Calls Tryd.prog 23 #[.slice a n cap] w fun r w' => r = .returned (.tuple #[.agg #[.int .i64 0, .int .i64 0, .int .i64 0, .int .i64 0, .int .i64 0], .int .i64 5]) ∧ Below w.heap.size w w' := by
  have hi0 : (28 : Int) ≤ (n : Int) := by omega
  have hd : decide ((n : Int) ≤ 28) = false := decide_eq_false (by omega)
  have HF := hide (decAW_facts w (.slice a n cap))
  have HE := hide he
  clear he
  go_enter Tryd.func23, Tryd.ntmps23
  go_wp2_with fail
  have CD := hide (fun code => demand_yes (w.heap.size + 1) 0 (.slice a n cap) code _ HF.out.2.1)
  have CN := hide (fun code => demand_no (w.heap.size + 1) 0 (.slice a n cap) code _ HF.out.2.1)
  have HR0 := hide HF.out.1
  have HC0 := hide HF.out.2.1
  have HZ0 := hide HF.out.2.2
  clear HF
  generalize hW : decAW w (.slice a n cap) = W at *
  unfold decAW at hW
  rw [hW]
  clear hW
  refine (CD.out _).mono ?_
  rintro e w0 ⟨rfl, hw0⟩
  rw [hw0]
  clear hw0
  go_wp2_with fail
  refine (CN.out _).mono ?_
  rintro e w1 ⟨rfl, hc1, hg1⟩
  have HC1 := hide hc1
  have HR1 := hide (HR0.out.kept hg1 (by omega))
  have hz1 : w.heap.size + 2 ≤ w1.heap.size := by have := hg1.size; have := HZ0.out; omega
  clear hc1 hg1 HR0 HZ0 HC0 CD CN
  go_wp2_with fail
  refine (take_err (w.heap.size + 1) 0 n cap _ 5 6 w1 HC1.out (by omega) (by omega) (by omega) (by omega)).mono ?_
  rintro e w0 ⟨rfl, mm, rfl⟩
  have HC1' : Hid (Cur (w1.drewN mm) _ _ _ _) := hide HC1.out
  have HR1' := hide (HR1.out.next (below_drewN (Below.refl _ _) mm))
  have hz1' : w.heap.size + 2 ≤ (w1.drewN mm).heap.size := hz1
  clear HC1 HR1 hz1
  generalize w1.drewN mm = w2 at *
  have HC1 := HC1'
  have HR1 := HR1'
  have hz1 := hz1'
  clear HC1' HR1' hz1'
  go_wp2_with fail
  refine (demand_err (w.heap.size + 1) 0 _ 5 _ _ w2 HC1.out).mono ?_
  rintro e w0 ⟨rfl, hw0⟩
  rw [hw0]
  clear hw0
  have hal := (Below.refl w2.heap.size w2).alloc (Nat.le_refl _) (.cells #[.int .i64 0, .int .i64 0, .int .i64 0, .int .i64 0, .int .i64 0] 44)
  have hS : DecEA w (w2.alloc (.cells #[.int .i64 0, .int .i64 0, .int .i64 0, .int .i64 0, .int .i64 0] 44)) a n cap w2.heap.size 0 5 0 0 0 0 0 :=
    ⟨HR1.out.next hal, HC1.out.below hal HC1.out.lt, heap_alloc_new _ _, by omega⟩
  have HS := hide hS
  clear hS hal HR1 HC1
  go_wp2_with fail
  generalize hV : w2.alloc (.cells #[.int .i64 0, .int .i64 0, .int .i64 0, .int .i64 0, .int .i64 0] 44) = V at *
  clear hV
  generalize w2.heap.size = F at *
  refine (take_err (w.heap.size + 1) _ n cap _ 5 2 V HS.out.2.1 (by omega) (by omega) (by omega) (by omega)).mono ?_
  rintro e u0 ⟨rfl, m0, rfl⟩
  have HT0 := hide (HS.out.drewN m0)
  clear HS
  generalize V.drewN m0 = U0 at *
  obtain ⟨f0, f1, f2, f3, f4, ff⟩ := HT0.out.cells
  have HS := hide (HT0.out.set0 0)
  clear HT0
  go_wp2_with fail
  generalize hV : U0.setCell ⟨F, 0, none⟩ (.int .i64 0) = V0 at *
  clear hV f0 f1 f2 f3 f4 ff
  refine (isArpOp_walk _ _).mono ?_
  rintro e u ⟨rfl, hu⟩
  rw [hu]
  clear hu u
  go_wp2_with fail
  refine (demand_err (w.heap.size + 1) _ _ 5 _ _ V0 HS.out.2.1).mono ?_
  rintro e u ⟨rfl, hu⟩
  rw [hu]
  clear hu u
  go_wp2_with fail
  refine (take_err (w.heap.size + 1) _ n cap _ 5 6 V0 HS.out.2.1 (by omega) (by omega) (by omega) (by omega)).mono ?_
  rintro e u1 ⟨rfl, m1, rfl⟩
  have HT1 := hide (HS.out.drewN m1)
  clear HS
  generalize V0.drewN m1 = U1 at *
  obtain ⟨f0, f1, f2, f3, f4, ff⟩ := HT1.out.cells
  have HS := hide (HT1.out.set1 0)
  clear HT1
  go_wp2_with fail
  generalize hV : U1.setCell ⟨F, 1, none⟩ (.int .i64 0) = V1 at *
  clear hV f0 f1 f2 f3 f4 ff
  refine (take_err (w.heap.size + 1) _ n cap _ 5 4 V1 HS.out.2.1 (by omega) (by omega) (by omega) (by omega)).mono ?_
  rintro e u2 ⟨rfl, m2, rfl⟩
  have HT2 := hide (HS.out.drewN m2)
  clear HS
  generalize V1.drewN m2 = U2 at *
  obtain ⟨f0, f1, f2, f3, f4, ff⟩ := HT2.out.cells
  have HS := hide (HT2.out.set2 0)
  clear HT2
  go_wp2_with fail
  generalize hV : U2.setCell ⟨F, 2, none⟩ (.int .i64 0) = V2 at *
  clear hV f0 f1 f2 f3 f4 ff
  refine (take_err (w.heap.size + 1) _ n cap _ 5 6 V2 HS.out.2.1 (by omega) (by omega) (by omega) (by omega)).mono ?_
  rintro e u3 ⟨rfl, m3, rfl⟩
  have HT3 := hide (HS.out.drewN m3)
  clear HS
  generalize V2.drewN m3 = U3 at *
  obtain ⟨f0, f1, f2, f3, f4, ff⟩ := HT3.out.cells
  have HS := hide (HT3.out.set3 0)
  clear HT3
  go_wp2_with fail
  generalize hV : U3.setCell ⟨F, 3, none⟩ (.int .i64 0) = V3 at *
  clear hV f0 f1 f2 f3 f4 ff
  refine (take_err (w.heap.size + 1) _ n cap _ 5 4 V3 HS.out.2.1 (by omega) (by omega) (by omega) (by omega)).mono ?_
  rintro e u4 ⟨rfl, m4, rfl⟩
  have HT4 := hide (HS.out.drewN m4)
  clear HS
  generalize V3.drewN m4 = U4 at *
  obtain ⟨f0, f1, f2, f3, f4, ff⟩ := HT4.out.cells
  have HS := hide (HT4.out.set4 0)
  clear HT4
  obtain ⟨c0, c1, c2, cf⟩ := HS.out.2.1.cells
  go_wp2_with fail
  generalize hV : U4.setCell ⟨F, 4, none⟩ (.int .i64 0) = V4 at *
  clear hV f0 f1 f2 f3 f4 ff
  have HTD := hide (HS.out.next ((Below.refl _ _).drew))
  have CA := hide (ansArp_err (0) (0) (0) (0) (0) 5 (by decide) V4.drew (HE.out.below HTD.out.1.1 (Nat.le_refl _)))
  have HK : Hid (V4.drew.cell? ⟨F, 0, none⟩ = some (.int .i64 0) ∧ V4.drew.cell? ⟨F, 1, none⟩ = some (.int .i64 0) ∧ V4.drew.cell? ⟨F, 2, none⟩ = some (.int .i64 0) ∧ V4.drew.cell? ⟨F, 3, none⟩ = some (.int .i64 0) ∧ V4.drew.cell? ⟨F, 4, none⟩ = some (.int .i64 0) ∧ V4.drew.cell? ⟨w.heap.size + 1, 2, none⟩ = some (wErr 5)) := hide ⟨HTD.out.cells.1, HTD.out.cells.2.1, HTD.out.cells.2.2.1, HTD.out.cells.2.2.2.1, HTD.out.cells.2.2.2.2.1, HTD.out.2.1.cells.2.2.1⟩
  have hRF : w.heap.size ≠ F := by first | (have h9 := HTD.out.2.2.2.2.2; omega) | (have h9 := HTD.out.2.2.2; omega)
  have hRC : w.heap.size ≠ w.heap.size + 1 := by omega
  clear c0 c1 c2 cf HS
  go_region_held3 (fun w' => w'.cell? ⟨F, 0, none⟩ = some (.int .i64 0) ∧ w'.cell? ⟨F, 1, none⟩ = some (.int .i64 0) ∧ w'.cell? ⟨F, 2, none⟩ = some (.int .i64 0) ∧ w'.cell? ⟨F, 3, none⟩ = some (.int .i64 0) ∧ w'.cell? ⟨F, 4, none⟩ = some (.int .i64 0) ∧ w'.cell? ⟨w.heap.size + 1, 2, none⟩ = some (wErr 5)) (first | with_reducible assumption | with_reducible exact HK.out | exact ⟨far5 hRF hk9.1, far5 hRF hk9.2.1, far5 hRF hk9.2.2.1, far5 hRF hk9.2.2.2.1, far5 hRF hk9.2.2.2.2.1, far5 hRC hk9.2.2.2.2.2⟩)
    ((go_at_call 57; refine CA.out.mono ?_; rintro e w88 ⟨rfl, hb88⟩; have hk9 : w88.cell? ⟨F, 0, none⟩ = some (.int .i64 0) ∧ w88.cell? ⟨F, 1, none⟩ = some (.int .i64 0) ∧ w88.cell? ⟨F, 2, none⟩ = some (.int .i64 0) ∧ w88.cell? ⟨F, 3, none⟩ = some (.int .i64 0) ∧ w88.cell? ⟨F, 4, none⟩ = some (.int .i64 0) ∧ w88.cell? ⟨w.heap.size + 1, 2, none⟩ = some (wErr 5) := ⟨(HTD.out.next hb88).cells.1, (HTD.out.next hb88).cells.2.1, (HTD.out.next hb88).cells.2.2.1, (HTD.out.next hb88).cells.2.2.2.1, (HTD.out.next hb88).cells.2.2.2.2.1, (HTD.out.next hb88).2.1.cells.2.2.1⟩; obtain ⟨d0, d1, d2, d3, d4, df⟩ := (HTD.out.next hb88).1.cells))
  all_goals
    have HS9 := hide (HTD.out.next hb88)
    have HRES := hide HS9.out.1.1
    clear hb88 HTD CA HK hk9
    go_wp2_with fail
    exact bodyPost_ret (v := .tuple #[.agg #[.int .i64 0, .int .i64 0, .int .i64 0, .int .i64 0, .int .i64 0], .int .i64 5]) (by simp [results, Tryd.results23, go_sem, d0, d1, d2, d3, d4]) rfl ⟨rfl, below_five HRES.out⟩
set_option maxHeartbeats 4000000 in
theorem implDecA_head (b off n cap : Nat) (zs : List Int) (w : World) (hn : zs.length = n) (ha : Arr w (some ⟨b, off, none⟩) zs) (h0 : n = 28) (hc : n ≤ cap) (hh : ¬ zs.take 6 = arHead) (he : ErrT w) :
    Calls Tryd.prog 23 #[.slice (some ⟨b, off, none⟩) n cap] w fun r w' => r = .returned (.tuple #[.agg #[.int .i64 0, .int .i64 0, .int .i64 0, .int .i64 0, .int .i64 0], .int .i64 9]) ∧ Below w.heap.size w w' := by
  obtain ⟨y, hy⟩ : ∃ x, x = tnum (zs.take 6) := ⟨_, rfl⟩
  obtain ⟨x0, hx0⟩ : ∃ x, x = daO zs := ⟨_, rfl⟩
  obtain ⟨x1, hx1⟩ : ∃ x, x = daM zs := ⟨_, rfl⟩
  obtain ⟨x2, hx2⟩ : ∃ x, x = daS zs := ⟨_, rfl⟩
  obtain ⟨x3, hx3⟩ : ∃ x, x = daU zs := ⟨_, rfl⟩
  obtain ⟨x4, hx4⟩ : ∃ x, x = daT zs := ⟨_, rfl⟩
  have SE := head_num zs (by omega) ha.1
  rw [decide_eq_false hh] at SE
  clear hh
  rw [← hy] at SE
  have HY := hide hy
  have HX0 := hide hx0
  have HX1 := hide hx1
  have HX2 := hide hx2
  have HX3 := hide hx3
  have HX4 := hide hx4
  clear hy hx0 hx1 hx2 hx3 hx4
  have HE := hide he
  clear he
  have hi0 : (28 : Int) ≤ (n : Int) := by omega
  have hi1 : (n : Int) ≤ 28 := by omega
  have hblt : b < w.heap.size := by
    obtain ⟨b', o', e, hlt, _⟩ := ha.2 0 (by omega)
    cases e
    exact hlt
  have HF := hide (decAW_facts w (.slice (some ⟨b, off, none⟩) n cap))
  have HA := hide ha
  have HN := hide hn
  have hn0 : n ≤ 28 := by omega
  have hn1 : 28 ≤ n := by omega
  clear ha hn h0
  go_enter Tryd.func23, Tryd.ntmps23
  go_wp2_with fail
  have CD := hide (fun code => demand_yes (w.heap.size + 1) 0 (.slice (some ⟨b, off, none⟩) n cap) code _ HF.out.2.1)
  have CN := hide (fun code => demand_no (w.heap.size + 1) 0 (.slice (some ⟨b, off, none⟩) n cap) code _ HF.out.2.1)
  have HR0 := hide HF.out.1
  have HC0 := hide HF.out.2.1
  have HZ0 := hide HF.out.2.2
  clear HF
  generalize hW : decAW w (.slice (some ⟨b, off, none⟩) n cap) = W at *
  unfold decAW at hW
  rw [hW]
  clear hW
  refine (CD.out _).mono ?_
  rintro e w0 ⟨rfl, hw0⟩
  rw [hw0]
  clear hw0
  go_wp2_with fail
  refine (CD.out _).mono ?_
  rintro e w0 ⟨rfl, hw0⟩
  rw [hw0]
  clear hw0
  go_wp2_with fail
  clear CD CN
  have t1 := tk6 (w.heap.size + 1) 0 n cap b off zs W HC0.out (by omega) (by omega) hc HN.out (HA.out.below HR0.out.1 (Nat.le_refl _)) (by omega)
  rw [show tnum ((zs.drop 0).take 6) = y from HY.out.symm] at t1
  have T1 := hide t1
  clear t1
  refine T1.out.mono ?_
  rintro e w1 ⟨rfl, hc1, hg1⟩
  have HC1 := hide hc1
  have HR1 := hide (HR0.out.kept hg1 (by omega))
  have HA1 := hide (HA.out.below HR1.out.1 (Nat.le_refl _))
  have hz1 : w.heap.size + 2 ≤ w1.heap.size := by have := hg1.size; have := HZ0.out; omega
  clear hc1 hg1 HR0 HZ0 HC0 HA T1
  go_wp2_with fail
  refine (demand_no (w.heap.size + 1) _ _ 9 w1 HC1.out).mono ?_
  rintro e w2 ⟨rfl, hc2, hg2⟩
  have HC2 := hide hc2
  have HR2 := hide (HR1.out.kept hg2 (by omega))
  have hz2 : w.heap.size + 2 ≤ w2.heap.size := by have := hg2.size; omega
  clear hc2 hg2 HC1 HR1 HA1 hz1
  have HC1 := HC2
  have HR1 := HR2
  clear HC2 HR2
  have hal := (Below.refl w2.heap.size w2).alloc (Nat.le_refl _) (.cells #[.int .i64 0, .int .i64 0, .int .i64 0, .int .i64 0, .int .i64 0] 44)
  have hS : DecEA w (w2.alloc (.cells #[.int .i64 0, .int .i64 0, .int .i64 0, .int .i64 0, .int .i64 0] 44)) (some ⟨b, off, none⟩) n cap w2.heap.size 6 9 0 0 0 0 0 :=
    ⟨HR1.out.next hal, HC1.out.below hal HC1.out.lt, heap_alloc_new _ _, by omega⟩
  have HS := hide hS
  clear hS hal HR1 HC1
  go_wp2_with fail
  generalize hV : w2.alloc (.cells #[.int .i64 0, .int .i64 0, .int .i64 0, .int .i64 0, .int .i64 0] 44) = V at *
  clear hV
  generalize w2.heap.size = F at *
  refine (take_err (w.heap.size + 1) _ n cap _ 9 2 V HS.out.2.1 (by omega) (by omega) (by omega) (by omega)).mono ?_
  rintro e u0 ⟨rfl, m0, rfl⟩
  have HT0 := hide (HS.out.drewN m0)
  clear HS
  generalize V.drewN m0 = U0 at *
  obtain ⟨f0, f1, f2, f3, f4, ff⟩ := HT0.out.cells
  have HS := hide (HT0.out.set0 0)
  clear HT0
  go_wp2_with fail
  generalize hV : U0.setCell ⟨F, 0, none⟩ (.int .i64 0) = V0 at *
  clear hV f0 f1 f2 f3 f4 ff
  refine (isArpOp_walk _ _).mono ?_
  rintro e u ⟨rfl, hu⟩
  rw [hu]
  clear hu u
  go_wp2_with fail
  refine (demand_err (w.heap.size + 1) _ _ 9 _ _ V0 HS.out.2.1).mono ?_
  rintro e u ⟨rfl, hu⟩
  rw [hu]
  clear hu u
  go_wp2_with fail
  refine (take_err (w.heap.size + 1) _ n cap _ 9 6 V0 HS.out.2.1 (by omega) (by omega) (by omega) (by omega)).mono ?_
  rintro e u1 ⟨rfl, m1, rfl⟩
  have HT1 := hide (HS.out.drewN m1)
  clear HS
  generalize V0.drewN m1 = U1 at *
  obtain ⟨f0, f1, f2, f3, f4, ff⟩ := HT1.out.cells
  have HS := hide (HT1.out.set1 0)
  clear HT1
  go_wp2_with fail
  generalize hV : U1.setCell ⟨F, 1, none⟩ (.int .i64 0) = V1 at *
  clear hV f0 f1 f2 f3 f4 ff
  refine (take_err (w.heap.size + 1) _ n cap _ 9 4 V1 HS.out.2.1 (by omega) (by omega) (by omega) (by omega)).mono ?_
  rintro e u2 ⟨rfl, m2, rfl⟩
  have HT2 := hide (HS.out.drewN m2)
  clear HS
  generalize V1.drewN m2 = U2 at *
  obtain ⟨f0, f1, f2, f3, f4, ff⟩ := HT2.out.cells
  have HS := hide (HT2.out.set2 0)
  clear HT2
  go_wp2_with fail
  generalize hV : U2.setCell ⟨F, 2, none⟩ (.int .i64 0) = V2 at *
  clear hV f0 f1 f2 f3 f4 ff
  refine (take_err (w.heap.size + 1) _ n cap _ 9 6 V2 HS.out.2.1 (by omega) (by omega) (by omega) (by omega)).mono ?_
  rintro e u3 ⟨rfl, m3, rfl⟩
  have HT3 := hide (HS.out.drewN m3)
  clear HS
  generalize V2.drewN m3 = U3 at *
  obtain ⟨f0, f1, f2, f3, f4, ff⟩ := HT3.out.cells
  have HS := hide (HT3.out.set3 0)
  clear HT3
  go_wp2_with fail
  generalize hV : U3.setCell ⟨F, 3, none⟩ (.int .i64 0) = V3 at *
  clear hV f0 f1 f2 f3 f4 ff
  refine (take_err (w.heap.size + 1) _ n cap _ 9 4 V3 HS.out.2.1 (by omega) (by omega) (by omega) (by omega)).mono ?_
  rintro e u4 ⟨rfl, m4, rfl⟩
  have HT4 := hide (HS.out.drewN m4)
  clear HS
  generalize V3.drewN m4 = U4 at *
  obtain ⟨f0, f1, f2, f3, f4, ff⟩ := HT4.out.cells
  have HS := hide (HT4.out.set4 0)
  clear HT4
  obtain ⟨c0, c1, c2, cf⟩ := HS.out.2.1.cells
  go_wp2_with fail
  generalize hV : U4.setCell ⟨F, 4, none⟩ (.int .i64 0) = V4 at *
  clear hV f0 f1 f2 f3 f4 ff
  have HTD := hide (HS.out.next ((Below.refl _ _).drew))
  have CA := hide (ansArp_err (0) (0) (0) (0) (0) 9 (by decide) V4.drew (HE.out.below HTD.out.1.1 (Nat.le_refl _)))
  have HK : Hid (V4.drew.cell? ⟨F, 0, none⟩ = some (.int .i64 0) ∧ V4.drew.cell? ⟨F, 1, none⟩ = some (.int .i64 0) ∧ V4.drew.cell? ⟨F, 2, none⟩ = some (.int .i64 0) ∧ V4.drew.cell? ⟨F, 3, none⟩ = some (.int .i64 0) ∧ V4.drew.cell? ⟨F, 4, none⟩ = some (.int .i64 0) ∧ V4.drew.cell? ⟨w.heap.size + 1, 2, none⟩ = some (wErr 9)) := hide ⟨HTD.out.cells.1, HTD.out.cells.2.1, HTD.out.cells.2.2.1, HTD.out.cells.2.2.2.1, HTD.out.cells.2.2.2.2.1, HTD.out.2.1.cells.2.2.1⟩
  have hRF : w.heap.size ≠ F := by first | (have h9 := HTD.out.2.2.2.2.2; omega) | (have h9 := HTD.out.2.2.2; omega)
  have hRC : w.heap.size ≠ w.heap.size + 1 := by omega
  clear c0 c1 c2 cf HS
  go_region_held3 (fun w' => w'.cell? ⟨F, 0, none⟩ = some (.int .i64 0) ∧ w'.cell? ⟨F, 1, none⟩ = some (.int .i64 0) ∧ w'.cell? ⟨F, 2, none⟩ = some (.int .i64 0) ∧ w'.cell? ⟨F, 3, none⟩ = some (.int .i64 0) ∧ w'.cell? ⟨F, 4, none⟩ = some (.int .i64 0) ∧ w'.cell? ⟨w.heap.size + 1, 2, none⟩ = some (wErr 9)) (first | with_reducible assumption | with_reducible exact HK.out | exact ⟨far5 hRF hk9.1, far5 hRF hk9.2.1, far5 hRF hk9.2.2.1, far5 hRF hk9.2.2.2.1, far5 hRF hk9.2.2.2.2.1, far5 hRC hk9.2.2.2.2.2⟩)
    ((go_at_call 57; refine CA.out.mono ?_; rintro e w88 ⟨rfl, hb88⟩; have hk9 : w88.cell? ⟨F, 0, none⟩ = some (.int .i64 0) ∧ w88.cell? ⟨F, 1, none⟩ = some (.int .i64 0) ∧ w88.cell? ⟨F, 2, none⟩ = some (.int .i64 0) ∧ w88.cell? ⟨F, 3, none⟩ = some (.int .i64 0) ∧ w88.cell? ⟨F, 4, none⟩ = some (.int .i64 0) ∧ w88.cell? ⟨w.heap.size + 1, 2, none⟩ = some (wErr 9) := ⟨(HTD.out.next hb88).cells.1, (HTD.out.next hb88).cells.2.1, (HTD.out.next hb88).cells.2.2.1, (HTD.out.next hb88).cells.2.2.2.1, (HTD.out.next hb88).cells.2.2.2.2.1, (HTD.out.next hb88).2.1.cells.2.2.1⟩; obtain ⟨d0, d1, d2, d3, d4, df⟩ := (HTD.out.next hb88).1.cells))
  all_goals
    have HS9 := hide (HTD.out.next hb88)
    have HRES := hide HS9.out.1.1
    clear hb88 HTD CA HK hk9
    go_wp2_with fail
    exact bodyPost_ret (v := .tuple #[.agg #[.int .i64 0, .int .i64 0, .int .i64 0, .int .i64 0, .int .i64 0], .int .i64 9]) (by simp [results, Tryd.results23, go_sem, d0, d1, d2, d3, d4]) rfl ⟨rfl, below_five HRES.out⟩
set_option maxHeartbeats 4000000 in
theorem implDecA_op (b off n cap : Nat) (zs : List Int) (w : World) (hn : zs.length = n) (ha : Arr w (some ⟨b, off, none⟩) zs) (h0 : n = 28) (hc : n ≤ cap) (hh : zs.take 6 = arHead) (ho : opB (daO zs) = false) (he : ErrT w) :
    Calls Tryd.prog 23 #[.slice (some ⟨b, off, none⟩) n cap] w fun r w' => r = .returned (.tuple #[.agg #[.int .i64 0, .int .i64 0, .int .i64 0, .int .i64 0, .int .i64 0], .int .i64 9]) ∧ Below w.heap.size w w' := by
  obtain ⟨y, hy⟩ : ∃ x, x = tnum (zs.take 6) := ⟨_, rfl⟩
  obtain ⟨x0, hx0⟩ : ∃ x, x = daO zs := ⟨_, rfl⟩
  obtain ⟨x1, hx1⟩ : ∃ x, x = daM zs := ⟨_, rfl⟩
  obtain ⟨x2, hx2⟩ : ∃ x, x = daS zs := ⟨_, rfl⟩
  obtain ⟨x3, hx3⟩ : ∃ x, x = daU zs := ⟨_, rfl⟩
  obtain ⟨x4, hx4⟩ : ∃ x, x = daT zs := ⟨_, rfl⟩
  have SE := head_num zs (by omega) ha.1
  rw [decide_eq_true hh] at SE
  clear hh
  rw [← hx0] at ho
  have HO := hide ho
  clear ho
  rw [← hy] at SE
  have HY := hide hy
  have HX0 := hide hx0
  have HX1 := hide hx1
  have HX2 := hide hx2
  have HX3 := hide hx3
  have HX4 := hide hx4
  clear hy hx0 hx1 hx2 hx3 hx4
  have HE := hide he
  clear he
  have hi0 : (28 : Int) ≤ (n : Int) := by omega
  have hi1 : (n : Int) ≤ 28 := by omega
  have hblt : b < w.heap.size := by
    obtain ⟨b', o', e, hlt, _⟩ := ha.2 0 (by omega)
    cases e
    exact hlt
  have HF := hide (decAW_facts w (.slice (some ⟨b, off, none⟩) n cap))
  have HA := hide ha
  have HN := hide hn
  have hn0 : n ≤ 28 := by omega
  have hn1 : 28 ≤ n := by omega
  clear ha hn h0
  go_enter Tryd.func23, Tryd.ntmps23
  go_wp2_with fail
  have CD := hide (fun code => demand_yes (w.heap.size + 1) 0 (.slice (some ⟨b, off, none⟩) n cap) code _ HF.out.2.1)
  have CN := hide (fun code => demand_no (w.heap.size + 1) 0 (.slice (some ⟨b, off, none⟩) n cap) code _ HF.out.2.1)
  have HR0 := hide HF.out.1
  have HC0 := hide HF.out.2.1
  have HZ0 := hide HF.out.2.2
  clear HF
  generalize hW : decAW w (.slice (some ⟨b, off, none⟩) n cap) = W at *
  unfold decAW at hW
  rw [hW]
  clear hW
  refine (CD.out _).mono ?_
  rintro e w0 ⟨rfl, hw0⟩
  rw [hw0]
  clear hw0
  go_wp2_with fail
  refine (CD.out _).mono ?_
  rintro e w0 ⟨rfl, hw0⟩
  rw [hw0]
  clear hw0
  go_wp2_with fail
  clear CD CN
  have t1 := tk6 (w.heap.size + 1) 0 n cap b off zs W HC0.out (by omega) (by omega) hc HN.out (HA.out.below HR0.out.1 (Nat.le_refl _)) (by omega)
  rw [show tnum ((zs.drop 0).take 6) = y from HY.out.symm] at t1
  have T1 := hide t1
  clear t1
  refine T1.out.mono ?_
  rintro e w1 ⟨rfl, hc1, hg1⟩
  have HC1 := hide hc1
  have HR1 := hide (HR0.out.kept hg1 (by omega))
  have HA1 := hide (HA.out.below HR1.out.1 (Nat.le_refl _))
  have hz1 : w.heap.size + 2 ≤ w1.heap.size := by have := hg1.size; have := HZ0.out; omega
  clear hc1 hg1 HR0 HZ0 HC0 HA T1
  go_wp2_with fail
  refine (demand_yes (w.heap.size + 1) _ _ 9 w1 HC1.out).mono ?_
  rintro e w0 ⟨rfl, hw0⟩
  rw [hw0]
  clear hw0
  have hal := (Below.refl w1.heap.size w1).alloc (Nat.le_refl _) (.cells #[.int .i64 0, .int .i64 0, .int .i64 0, .int .i64 0, .int .i64 0] 44)
  have hS : DecSA w (w1.alloc (.cells #[.int .i64 0, .int .i64 0, .int .i64 0, .int .i64 0, .int .i64 0] 44)) b off n cap w1.heap.size 6 zs 0 0 0 0 0 .nilIface :=
    ⟨HR1.out.next hal, HC1.out.below hal HC1.out.lt, heap_alloc_new _ _, HA1.out.below hal (Nat.le_refl _), hblt, by omega⟩
  have HS := hide hS
  clear hS hal HR1 HC1 HA1
  go_wp2_with fail
  generalize hV : w1.alloc (.cells #[.int .i64 0, .int .i64 0, .int .i64 0, .int .i64 0, .int .i64 0] 44) = V at *
  clear hV
  generalize w1.heap.size = F at *
  have hCF := HS.out.2.2.2.2.2
  have t1 := tk2 (w.heap.size + 1) 6 n cap b off zs V HS.out.2.1 (by omega) (by omega) hc HN.out HS.out.2.2.2.1 (by omega)
  rw [show tnum ((zs.drop 6).take 2) = x0 from HX0.out.symm] at t1
  have T1 := hide t1
  clear t1
  refine T1.out.mono ?_
  rintro e w2 ⟨rfl, hc2, hg2⟩
  have HS2 := hide (HS.out.moved hg2 hc2)
  clear HS T1 hc2 hg2
  obtain ⟨f0, f1, f2, f3, f4, ff⟩ := HS2.out.cells
  have HS : Hid (DecSA w (w2.setCell ⟨F, 0, none⟩ (.int .i64 x0)) b off n cap F 8 zs x0 0 0 0 0 .nilIface) := hide (HS2.out.set0 x0)
  clear HS2
  go_wp2_with fail
  generalize hV : w2.setCell ⟨F, 0, none⟩ (.int .i64 x0) = V0 at *
  clear hV f0 f1 f2 f3 f4 ff
  refine (isArpOp_walk _ _).mono ?_
  rintro e u ⟨rfl, hu⟩
  rw [hu, HO.out]
  clear hu u
  go_wp2_with fail
  refine (demand_no (w.heap.size + 1) _ _ 9 V0 HS.out.2.1).mono ?_
  rintro e w2 ⟨rfl, hc2, hg2⟩
  have HS2 := hide (HS.out.moved hg2 hc2)
  clear hc2 hg2 HS
  have HS : Hid (DecEA w w2 (some ⟨b, off, none⟩) n cap F 8 9 x0 0 0 0 0) := hide ⟨HS2.out.1, HS2.out.2.1, HS2.out.2.2.1, HS2.out.2.2.2.2.2⟩
  clear HS2
  go_wp2_with fail
  refine (take_err (w.heap.size + 1) _ n cap _ 9 6 w2 HS.out.2.1 (by omega) (by omega) (by omega) (by omega)).mono ?_
  rintro e u1 ⟨rfl, m1, rfl⟩
  have HT1 := hide (HS.out.drewN m1)
  clear HS
  generalize w2.drewN m1 = U1 at *
  obtain ⟨f0, f1, f2, f3, f4, ff⟩ := HT1.out.cells
  have HS := hide (HT1.out.set1 0)
  clear HT1
  go_wp2_with fail
  generalize hV : U1.setCell ⟨F, 1, none⟩ (.int .i64 0) = V1 at *
  clear hV f0 f1 f2 f3 f4 ff
  refine (take_err (w.heap.size + 1) _ n cap _ 9 4 V1 HS.out.2.1 (by omega) (by omega) (by omega) (by omega)).mono ?_
  rintro e u2 ⟨rfl, m2, rfl⟩
  have HT2 := hide (HS.out.drewN m2)
  clear HS
  generalize V1.drewN m2 = U2 at *
  obtain ⟨f0, f1, f2, f3, f4, ff⟩ := HT2.out.cells
  have HS := hide (HT2.out.set2 0)
  clear HT2
  go_wp2_with fail
  generalize hV : U2.setCell ⟨F, 2, none⟩ (.int .i64 0) = V2 at *
  clear hV f0 f1 f2 f3 f4 ff
  refine (take_err (w.heap.size + 1) _ n cap _ 9 6 V2 HS.out.2.1 (by omega) (by omega) (by omega) (by omega)).mono ?_
  rintro e u3 ⟨rfl, m3, rfl⟩
  have HT3 := hide (HS.out.drewN m3)
  clear HS
  generalize V2.drewN m3 = U3 at *
  obtain ⟨f0, f1, f2, f3, f4, ff⟩ := HT3.out.cells
  have HS := hide (HT3.out.set3 0)
  clear HT3
  go_wp2_with fail
  generalize hV : U3.setCell ⟨F, 3, none⟩ (.int .i64 0) = V3 at *
  clear hV f0 f1 f2 f3 f4 ff
  refine (take_err (w.heap.size + 1) _ n cap _ 9 4 V3 HS.out.2.1 (by omega) (by omega) (by omega) (by omega)).mono ?_
  rintro e u4 ⟨rfl, m4, rfl⟩
  have HT4 := hide (HS.out.drewN m4)
  clear HS
  generalize V3.drewN m4 = U4 at *
  obtain ⟨f0, f1, f2, f3, f4, ff⟩ := HT4.out.cells
  have HS := hide (HT4.out.set4 0)
  clear HT4
  obtain ⟨c0, c1, c2, cf⟩ := HS.out.2.1.cells
  go_wp2_with fail
  generalize hV : U4.setCell ⟨F, 4, none⟩ (.int .i64 0) = V4 at *
  clear hV f0 f1 f2 f3 f4 ff
  have HTD := hide (HS.out.next ((Below.refl _ _).drew))
  have CA := hide (ansArp_err (x0) (0) (0) (0) (0) 9 (by decide) V4.drew (HE.out.below HTD.out.1.1 (Nat.le_refl _)))
  have HK : Hid (V4.drew.cell? ⟨F, 0, none⟩ = some (.int .i64 x0) ∧ V4.drew.cell? ⟨F, 1, none⟩ = some (.int .i64 0) ∧ V4.drew.cell? ⟨F, 2, none⟩ = some (.int .i64 0) ∧ V4.drew.cell? ⟨F, 3, none⟩ = some (.int .i64 0) ∧ V4.drew.cell? ⟨F, 4, none⟩ = some (.int .i64 0) ∧ V4.drew.cell? ⟨w.heap.size + 1, 2, none⟩ = some (wErr 9)) := hide ⟨HTD.out.cells.1, HTD.out.cells.2.1, HTD.out.cells.2.2.1, HTD.out.cells.2.2.2.1, HTD.out.cells.2.2.2.2.1, HTD.out.2.1.cells.2.2.1⟩
  have hRF : w.heap.size ≠ F := by first | (have h9 := HTD.out.2.2.2.2.2; omega) | (have h9 := HTD.out.2.2.2; omega)
  have hRC : w.heap.size ≠ w.heap.size + 1 := by omega
  clear c0 c1 c2 cf HS
  go_region_held3 (fun w' => w'.cell? ⟨F, 0, none⟩ = some (.int .i64 x0) ∧ w'.cell? ⟨F, 1, none⟩ = some (.int .i64 0) ∧ w'.cell? ⟨F, 2, none⟩ = some (.int .i64 0) ∧ w'.cell? ⟨F, 3, none⟩ = some (.int .i64 0) ∧ w'.cell? ⟨F, 4, none⟩ = some (.int .i64 0) ∧ w'.cell? ⟨w.heap.size + 1, 2, none⟩ = some (wErr 9)) (first | with_reducible assumption | with_reducible exact HK.out | exact ⟨far5 hRF hk9.1, far5 hRF hk9.2.1, far5 hRF hk9.2.2.1, far5 hRF hk9.2.2.2.1, far5 hRF hk9.2.2.2.2.1, far5 hRC hk9.2.2.2.2.2⟩)
    ((go_at_call 57; refine CA.out.mono ?_; rintro e w88 ⟨rfl, hb88⟩; have hk9 : w88.cell? ⟨F, 0, none⟩ = some (.int .i64 x0) ∧ w88.cell? ⟨F, 1, none⟩ = some (.int .i64 0) ∧ w88.cell? ⟨F, 2, none⟩ = some (.int .i64 0) ∧ w88.cell? ⟨F, 3, none⟩ = some (.int .i64 0) ∧ w88.cell? ⟨F, 4, none⟩ = some (.int .i64 0) ∧ w88.cell? ⟨w.heap.size + 1, 2, none⟩ = some (wErr 9) := ⟨(HTD.out.next hb88).cells.1, (HTD.out.next hb88).cells.2.1, (HTD.out.next hb88).cells.2.2.1, (HTD.out.next hb88).cells.2.2.2.1, (HTD.out.next hb88).cells.2.2.2.2.1, (HTD.out.next hb88).2.1.cells.2.2.1⟩; obtain ⟨d0, d1, d2, d3, d4, df⟩ := (HTD.out.next hb88).1.cells))
  all_goals
    have HS9 := hide (HTD.out.next hb88)
    have HRES := hide HS9.out.1.1
    clear hb88 HTD CA HK hk9
    go_wp2_with fail
    exact bodyPost_ret (v := .tuple #[.agg #[.int .i64 0, .int .i64 0, .int .i64 0, .int .i64 0, .int .i64 0], .int .i64 9]) (by simp [results, Tryd.results23, go_sem, d0, d1, d2, d3, d4]) rfl ⟨rfl, below_five HRES.out⟩
set_option maxHeartbeats 4000000 in
theorem implDecA_good (b off n cap : Nat) (zs : List Int) (w : World) (hn : zs.length = n) (ha : Arr w (some ⟨b, off, none⟩) zs) (h0 : n = 28) (hc : n ≤ cap) (hh : zs.take 6 = arHead) (ho : opB (daO zs) = true) :
    Calls Tryd.prog 23 #[.slice (some ⟨b, off, none⟩) n cap] w fun r w' => r = .returned (.tuple #[.agg #[.int .i64 (daO zs), .int .i64 (daM zs), .int .i64 (daS zs), .int .i64 (daU zs), .int .i64 (daT zs)], .int .i64 0]) ∧ Below w.heap.size w w' := by
  obtain ⟨y, hy⟩ : ∃ x, x = tnum (zs.take 6) := ⟨_, rfl⟩
  obtain ⟨x0, hx0⟩ : ∃ x, x = daO zs := ⟨_, rfl⟩
  obtain ⟨x1, hx1⟩ : ∃ x, x = daM zs := ⟨_, rfl⟩
  obtain ⟨x2, hx2⟩ : ∃ x, x = daS zs := ⟨_, rfl⟩
  obtain ⟨x3, hx3⟩ : ∃ x, x = daU zs := ⟨_, rfl⟩
  obtain ⟨x4, hx4⟩ : ∃ x, x = daT zs := ⟨_, rfl⟩
  have SE := head_num zs (by omega) ha.1
  rw [decide_eq_true hh] at SE
  clear hh
  rw [← hx0] at ho
  have HO := hide ho
  clear ho
  rw [← hx0, ← hx1, ← hx2, ← hx3, ← hx4]
  rw [← hy] at SE
  have HY := hide hy
  have HX0 := hide hx0
  have HX1 := hide hx1
  have HX2 := hide hx2
  have HX3 := hide hx3
  have HX4 := hide hx4
  clear hy hx0 hx1 hx2 hx3 hx4
  have hi0 : (28 : Int) ≤ (n : Int) := by omega
  have hi1 : (n : Int) ≤ 28 := by omega
  have hblt : b < w.heap.size := by
    obtain ⟨b', o', e, hlt, _⟩ := ha.2 0 (by omega)
    cases e
    exact hlt
  have HF := hide (decAW_facts w (.slice (some ⟨b, off, none⟩) n cap))
  have HA := hide ha
  have HN := hide hn
  have hn0 : n ≤ 28 := by omega
  have hn1 : 28 ≤ n := by omega
  clear ha hn h0
  go_enter Tryd.func23, Tryd.ntmps23
  go_wp2_with fail
  have CD := hide (fun code => demand_yes (w.heap.size + 1) 0 (.slice (some ⟨b, off, none⟩) n cap) code _ HF.out.2.1)
  have CN := hide (fun code => demand_no (w.heap.size + 1) 0 (.slice (some ⟨b, off, none⟩) n cap) code _ HF.out.2.1)
  have HR0 := hide HF.out.1
  have HC0 := hide HF.out.2.1
  have HZ0 := hide HF.out.2.2
  clear HF
  generalize hW : decAW w (.slice (some ⟨b, off, none⟩) n cap) = W at *
  unfold decAW at hW
  rw [hW]
  clear hW
  refine (CD.out _).mono ?_
  rintro e w0 ⟨rfl, hw0⟩
  rw [hw0]
  clear hw0
  go_wp2_with fail
  refine (CD.out _).mono ?_
  rintro e w0 ⟨rfl, hw0⟩
  rw [hw0]
  clear hw0
  go_wp2_with fail
  clear CD CN
  have t1 := tk6 (w.heap.size + 1) 0 n cap b off zs W HC0.out (by omega) (by omega) hc HN.out (HA.out.below HR0.out.1 (Nat.le_refl _)) (by omega)
  rw [show tnum ((zs.drop 0).take 6) = y from HY.out.symm] at t1
  have T1 := hide t1
  clear t1
  refine T1.out.mono ?_
  rintro e w1 ⟨rfl, hc1, hg1⟩
  have HC1 := hide hc1
  have HR1 := hide (HR0.out.kept hg1 (by omega))
  have HA1 := hide (HA.out.below HR1.out.1 (Nat.le_refl _))
  have hz1 : w.heap.size + 2 ≤ w1.heap.size := by have := hg1.size; have := HZ0.out; omega
  clear hc1 hg1 HR0 HZ0 HC0 HA T1
  go_wp2_with fail
  refine (demand_yes (w.heap.size + 1) _ _ 9 w1 HC1.out).mono ?_
  rintro e w0 ⟨rfl, hw0⟩
  rw [hw0]
  clear hw0
  have hal := (Below.refl w1.heap.size w1).alloc (Nat.le_refl _) (.cells #[.int .i64 0, .int .i64 0, .int .i64 0, .int .i64 0, .int .i64 0] 44)
  have hS : DecSA w (w1.alloc (.cells #[.int .i64 0, .int .i64 0, .int .i64 0, .int .i64 0, .int .i64 0] 44)) b off n cap w1.heap.size 6 zs 0 0 0 0 0 .nilIface :=
    ⟨HR1.out.next hal, HC1.out.below hal HC1.out.lt, heap_alloc_new _ _, HA1.out.below hal (Nat.le_refl _), hblt, by omega⟩
  have HS := hide hS
  clear hS hal HR1 HC1 HA1
  go_wp2_with fail
  generalize hV : w1.alloc (.cells #[.int .i64 0, .int .i64 0, .int .i64 0, .int .i64 0, .int .i64 0] 44) = V at *
  clear hV
  generalize w1.heap.size = F at *
  have hCF := HS.out.2.2.2.2.2
  have t1 := tk2 (w.heap.size + 1) 6 n cap b off zs V HS.out.2.1 (by omega) (by omega) hc HN.out HS.out.2.2.2.1 (by omega)
  rw [show tnum ((zs.drop 6).take 2) = x0 from HX0.out.symm] at t1
  have T1 := hide t1
  clear t1
  refine T1.out.mono ?_
  rintro e w2 ⟨rfl, hc2, hg2⟩
  have HS2 := hide (HS.out.moved hg2 hc2)
  clear HS T1 hc2 hg2
  obtain ⟨f0, f1, f2, f3, f4, ff⟩ := HS2.out.cells
  have HS : Hid (DecSA w (w2.setCell ⟨F, 0, none⟩ (.int .i64 x0)) b off n cap F 8 zs x0 0 0 0 0 .nilIface) := hide (HS2.out.set0 x0)
  clear HS2
  go_wp2_with fail
  generalize hV : w2.setCell ⟨F, 0, none⟩ (.int .i64 x0) = V0 at *
  clear hV f0 f1 f2 f3 f4 ff
  refine (isArpOp_walk _ _).mono ?_
  rintro e u ⟨rfl, hu⟩
  rw [hu, HO.out]
  clear hu u
  go_wp2_with fail
  refine (demand_yes (w.heap.size + 1) _ _ 9 V0 HS.out.2.1).mono ?_
  rintro e u ⟨rfl, hu⟩
  rw [hu]
  clear hu u
  go_wp2_with fail
  have t1 := tk6 (w.heap.size + 1) 8 n cap b off zs V0 HS.out.2.1 (by omega) (by omega) hc HN.out HS.out.2.2.2.1 (by omega)
  rw [show tnum ((zs.drop 8).take 6) = x1 from HX1.out.symm] at t1
  have T1 := hide t1
  clear t1
  refine T1.out.mono ?_
  rintro e w2 ⟨rfl, hc2, hg2⟩
  have HS2 := hide (HS.out.moved hg2 hc2)
  clear HS T1 hc2 hg2
  obtain ⟨f0, f1, f2, f3, f4, ff⟩ := HS2.out.cells
  have HS : Hid (DecSA w (w2.setCell ⟨F, 1, none⟩ (.int .i64 x1)) b off n cap F 14 zs x0 x1 0 0 0 .nilIface) := hide (HS2.out.set1 x1)
  clear HS2
  go_wp2_with fail
  generalize hV : w2.setCell ⟨F, 1, none⟩ (.int .i64 x1) = V1 at *
  clear hV f0 f1 f2 f3 f4 ff
  have t1 := tk4 (w.heap.size + 1) 14 n cap b off zs V1 HS.out.2.1 (by omega) (by omega) hc HN.out HS.out.2.2.2.1 (by omega)
  rw [show tnum ((zs.drop 14).take 4) = x2 from HX2.out.symm] at t1
  have T1 := hide t1
  clear t1
  refine T1.out.mono ?_
  rintro e w2 ⟨rfl, hc2, hg2⟩
  have HS2 := hide (HS.out.moved hg2 hc2)
  clear HS T1 hc2 hg2
  obtain ⟨f0, f1, f2, f3, f4, ff⟩ := HS2.out.cells
  have HS : Hid (DecSA w (w2.setCell ⟨F, 2, none⟩ (.int .i64 x2)) b off n cap F 18 zs x0 x1 x2 0 0 .nilIface) := hide (HS2.out.set2 x2)
  clear HS2
  go_wp2_with fail
  generalize hV : w2.setCell ⟨F, 2, none⟩ (.int .i64 x2) = V2 at *
  clear hV f0 f1 f2 f3 f4 ff
  have t1 := tk6 (w.heap.size + 1) 18 n cap b off zs V2 HS.out.2.1 (by omega) (by omega) hc HN.out HS.out.2.2.2.1 (by omega)
  rw [show tnum ((zs.drop 18).take 6) = x3 from HX3.out.symm] at t1
  have T1 := hide t1
  clear t1
  refine T1.out.mono ?_
  rintro e w2 ⟨rfl, hc2, hg2⟩
  have HS2 := hide (HS.out.moved hg2 hc2)
  clear HS T1 hc2 hg2
  obtain ⟨f0, f1, f2, f3, f4, ff⟩ := HS2.out.cells
  have HS : Hid (DecSA w (w2.setCell ⟨F, 3, none⟩ (.int .i64 x3)) b off n cap F 24 zs x0 x1 x2 x3 0 .nilIface) := hide (HS2.out.set3 x3)
  clear HS2
  go_wp2_with fail
  generalize hV : w2.setCell ⟨F, 3, none⟩ (.int .i64 x3) = V3 at *
  clear hV f0 f1 f2 f3 f4 ff
  have t1 := tk4 (w.heap.size + 1) 24 n cap b off zs V3 HS.out.2.1 (by omega) (by omega) hc HN.out HS.out.2.2.2.1 (by omega)
  rw [show tnum ((zs.drop 24).take 4) = x4 from HX4.out.symm] at t1
  have T1 := hide t1
  clear t1
  refine T1.out.mono ?_
  rintro e w2 ⟨rfl, hc2, hg2⟩
  have HS2 := hide (HS.out.moved hg2 hc2)
  clear HS T1 hc2 hg2
  obtain ⟨f0, f1, f2, f3, f4, ff⟩ := HS2.out.cells
  have HS : Hid (DecSA w (w2.setCell ⟨F, 4, none⟩ (.int .i64 x4)) b off n cap F 28 zs x0 x1 x2 x3 x4 .nilIface) := hide (HS2.out.set4 x4)
  clear HS2
  obtain ⟨c0, c1, c2, cf⟩ := HS.out.2.1.cells
  go_wp2_with fail
  generalize hV : w2.setCell ⟨F, 4, none⟩ (.int .i64 x4) = V4 at *
  clear hV f0 f1 f2 f3 f4 ff
  have HTD := hide (HS.out.next ((Below.refl _ _).drew))
  have CA := hide (ansArp_nil (x0) (x1) (x2) (x3) (x4) V4.drew)
  have HK : Hid (V4.drew.cell? ⟨F, 0, none⟩ = some (.int .i64 x0) ∧ V4.drew.cell? ⟨F, 1, none⟩ = some (.int .i64 x1) ∧ V4.drew.cell? ⟨F, 2, none⟩ = some (.int .i64 x2) ∧ V4.drew.cell? ⟨F, 3, none⟩ = some (.int .i64 x3) ∧ V4.drew.cell? ⟨F, 4, none⟩ = some (.int .i64 x4) ∧ V4.drew.cell? ⟨w.heap.size + 1, 2, none⟩ = some .nilIface) := hide ⟨HTD.out.cells.1, HTD.out.cells.2.1, HTD.out.cells.2.2.1, HTD.out.cells.2.2.2.1, HTD.out.cells.2.2.2.2.1, HTD.out.2.1.cells.2.2.1⟩
  have hRF : w.heap.size ≠ F := by first | (have h9 := HTD.out.2.2.2.2.2; omega) | (have h9 := HTD.out.2.2.2; omega)
  have hRC : w.heap.size ≠ w.heap.size + 1 := by omega
  clear c0 c1 c2 cf HS
  go_region_held3 (fun w' => w'.cell? ⟨F, 0, none⟩ = some (.int .i64 x0) ∧ w'.cell? ⟨F, 1, none⟩ = some (.int .i64 x1) ∧ w'.cell? ⟨F, 2, none⟩ = some (.int .i64 x2) ∧ w'.cell? ⟨F, 3, none⟩ = some (.int .i64 x3) ∧ w'.cell? ⟨F, 4, none⟩ = some (.int .i64 x4) ∧ w'.cell? ⟨w.heap.size + 1, 2, none⟩ = some .nilIface) (first | with_reducible assumption | with_reducible exact HK.out | exact ⟨far5 hRF hk9.1, far5 hRF hk9.2.1, far5 hRF hk9.2.2.1, far5 hRF hk9.2.2.2.1, far5 hRF hk9.2.2.2.2.1, far5 hRC hk9.2.2.2.2.2⟩)
    ((go_at_call 57; refine CA.out.mono ?_; rintro e w88 ⟨rfl, hb88⟩; have hk9 : w88.cell? ⟨F, 0, none⟩ = some (.int .i64 x0) ∧ w88.cell? ⟨F, 1, none⟩ = some (.int .i64 x1) ∧ w88.cell? ⟨F, 2, none⟩ = some (.int .i64 x2) ∧ w88.cell? ⟨F, 3, none⟩ = some (.int .i64 x3) ∧ w88.cell? ⟨F, 4, none⟩ = some (.int .i64 x4) ∧ w88.cell? ⟨w.heap.size + 1, 2, none⟩ = some .nilIface := ⟨(HTD.out.next hb88).cells.1, (HTD.out.next hb88).cells.2.1, (HTD.out.next hb88).cells.2.2.1, (HTD.out.next hb88).cells.2.2.2.1, (HTD.out.next hb88).cells.2.2.2.2.1, (HTD.out.next hb88).2.1.cells.2.2.1⟩; obtain ⟨d0, d1, d2, d3, d4, df⟩ := (HTD.out.next hb88).1.cells))
  all_goals
    have HS15 := hide (HTD.out.next hb88)
    have HRES := hide HS15.out.1.1
    clear hb88 HTD CA HK hk9
    go_wp2_with fail
    exact bodyPost_ret (v := .tuple #[.agg #[.int .i64 x0, .int .i64 x1, .int .i64 x2, .int .i64 x3, .int .i64 x4], .int .i64 0]) (by simp [results, Tryd.results23, go_sem, d0, d1, d2, d3, d4]) rfl ⟨rfl, below_five HRES.out⟩
theorem tnum_mac (zs : List Int) (p : Nat) (hl : p + 6 ≤ zs.length) (hz : ∀ z ∈ zs, 0 ≤ z ∧ z ≤ 255) : macOKB (tnum ((zs.drop p).take 6)) = true := by
  have h := tnum_bd (zs.drop p) (fun z h => hz z (List.mem_of_mem_drop h)) 6 (by rw [List.length_drop]; omega)
  exact macOKB_iff.2 ⟨h.1, by have := h.2; omega⟩
theorem tnum_adr (zs : List Int) (p : Nat) (hl : p + 4 ≤ zs.length) (hz : ∀ z ∈ zs, 0 ≤ z ∧ z ≤ 255) : adrB (tnum ((zs.drop p).take 4)) = true := by
  have h := tnum_bd (zs.drop p) (fun z h => hz z (List.mem_of_mem_drop h)) 4 (by rw [List.length_drop]; omega)
  exact adrB_iff.2 ⟨h.1, by have := h.2; omega⟩
theorem daB_is (zs : List Int) (hl : zs.length = 28) (hz : ∀ z ∈ zs, 0 ≤ z ∧ z ≤ 255) : daB zs = (decide (zs.take 6 = arHead) && opB (daO zs)) := by
  unfold daB
  rw [arOK_opB]
  have h1 : macOKB (daM zs) = true := tnum_mac zs 8 (by omega) hz
  have h2 : macOKB (daU zs) = true := tnum_mac zs 18 (by omega) hz
  have h3 : adrB (daS zs) = true := tnum_adr zs 14 (by omega) hz
  have h4 : adrB (daT zs) = true := tnum_adr zs 24 (by omega) hz
  rw [h1, h2, h3, h4]
  simp
/-- DecodeArp of the program. -/
theorem implDecA_walk (a : Option Addr) (n cap : Nat) (zs : List Int) (w : World) (hn : zs.length = n) (ha : Arr w a zs) (hm : n ≤ 1048576) (hc : n ≤ cap) (he : ErrT w) :
    Calls Tryd.prog 23 #[.slice a n cap] w fun r w' => r = .returned (.tuple #[.agg #[.int .i64 (if daC zs = 0 then daO zs else 0), .int .i64 (if daC zs = 0 then daM zs else 0), .int .i64 (if daC zs = 0 then daS zs else 0), .int .i64 (if daC zs = 0 then daU zs else 0), .int .i64 (if daC zs = 0 then daT zs else 0)], .int .i64 (daC zs)]) ∧ Below w.heap.size w w' := by
  have bad : ∀ c : Int, daC zs = c → ¬ c = 0 → ∀ r w', r = Ending.returned (.tuple #[.agg #[.int .i64 0, .int .i64 0, .int .i64 0, .int .i64 0, .int .i64 0], .int .i64 c]) ∧ Below w.heap.size w w' →
      r = .returned (.tuple #[.agg #[.int .i64 (if daC zs = 0 then daO zs else 0), .int .i64 (if daC zs = 0 then daM zs else 0), .int .i64 (if daC zs = 0 then daS zs else 0), .int .i64 (if daC zs = 0 then daU zs else 0), .int .i64 (if daC zs = 0 then daT zs else 0)], .int .i64 (daC zs)]) ∧ Below w.heap.size w w' := by
    rintro c hc' h0 r w' ⟨rfl, hb⟩
    rw [hc', if_neg h0, if_neg h0, if_neg h0, if_neg h0, if_neg h0]
    exact ⟨rfl, hb⟩
  by_cases h1 : n < 28
  · exact (implDecA_short a n cap w h1 hm he).mono (bad 2 (by unfold daC; rw [if_pos (by omega)]) (by decide))
  · by_cases h2 : 28 < n
    · exact (implDecA_long a n cap w h2 hm he).mono (bad 5 (by unfold daC; rw [if_neg (by omega), if_pos (by omega)]) (by decide))
    · obtain ⟨b, off, rfl, _⟩ := ha.2 0 (by omega)
      have hB := daB_is zs (by omega) ha.1
      by_cases hh : zs.take 6 = arHead
      · cases ho : opB (daO zs) with
        | false =>
          rw [ho, Bool.and_false] at hB
          exact (implDecA_op b off n cap zs w hn ha (by omega) hc hh ho he).mono (bad 9 (by unfold daC; rw [if_neg (by omega), if_neg (by omega), hB]; rfl) (by decide))
        | true =>
          rw [ho, decide_eq_true hh] at hB
          have hC : daC zs = 0 := by unfold daC; rw [if_neg (by omega), if_neg (by omega), hB]; rfl
          refine (implDecA_good b off n cap zs w hn ha (by omega) hc hh ho).mono ?_
          rintro r w' ⟨rfl, hb⟩
          rw [hC, if_pos rfl, if_pos rfl, if_pos rfl, if_pos rfl, if_pos rfl]
          exact ⟨rfl, hb⟩
      · rw [decide_eq_false hh, Bool.false_and] at hB
        exact (implDecA_head b off n cap zs w hn ha (by omega) hc hh he).mono (bad 9 (by unfold daC; rw [if_neg (by omega), if_neg (by omega), hB]; rfl) (by decide))
end Go.Proofs.YthoinddlnmailaaDoor
