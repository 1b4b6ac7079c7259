/-
Contracts of functions of this seat.
-/
import Derived.Test.YtakoagfeiolkjaaDoorRows
import Derived.WalkKit
import Derived.ProofKit
import Derived.OpenShut
import Derived.Test.YtakoagfeiolkjaaDoorCno
import Derived.Test.YtakoagfeiolkjaaDoorIth
namespace Go.Proofs.YtakoagfeiolkjaaDoor
open Go.ChangeShapes Go.WideShapes Go.ChangeAt Go.RowKit
set_option linter.unusedVariables false
set_option maxRecDepth 100000
theorem far7 {w : World} {R F j : Nat} (h : R ≠ F) {v : Option Value} {x0 x1 x2 x3 x4 x5 x6 : Value} (k : w.cell? ⟨F, j, none⟩ = v) : (((((((w.setCell ⟨R, 0, none⟩ x0).setCell ⟨R, 1, none⟩ x1).setCell ⟨R, 2, none⟩ x2).setCell ⟨R, 3, none⟩ x3).setCell ⟨R, 4, none⟩ x4).setCell ⟨R, 5, none⟩ x5).setCell ⟨R, 6, none⟩ x6).cell? ⟨F, j, none⟩ = v := (World.cell?_setCell_far _ _ _ _ h).trans ((World.cell?_setCell_far _ _ _ _ h).trans ((World.cell?_setCell_far _ _ _ _ h).trans ((World.cell?_setCell_far _ _ _ _ h).trans ((World.cell?_setCell_far _ _ _ _ h).trans ((World.cell?_setCell_far _ _ _ _ h).trans ((World.cell?_setCell_far _ _ _ _ h).trans (k)))))))
theorem size_two (w : World) (o1 o2 : Obj) : ((w.alloc o1).alloc o2).heap.size = w.heap.size + 2 := by
  have s1 := World.size_alloc w o1
  have s2 := World.size_alloc (w.alloc o1) o2
  omega
theorem DS0.only {w W W' : World} {zr : Array Value} {T p p' F : Nat} {bv ev bv' ev' : Value} (h : DS0 w W zr T bv p ev) (k : Only [w.heap.size + 1, F] W W') (hF : w.heap.size < F) (hc : Cur W' (w.heap.size + 1) bv' p' ev') : DS0 w W' zr T bv' p' ev' :=
  ⟨h.1.trans (k.below (by intro x hx; simp at hx; omega) h.1.size), (k.block _ h.2.1.lt (by simp; omega)).trans h.2.1, hc⟩
set_option maxHeartbeats 8000000 in
theorem implQuote_bad (a : Option Addr) (n cap : Nat) (c : Int) (w : World) (hm : n ≤ 1048576) (hc0 : c ≠ 0) (he : ErrT w)
    (hT : ∀ W, Cur W (w.heap.size + 1) (.slice a n cap) 0 .nilIface → FR W (w.heap.size + 2) 0 0 0 0 0 0 0 0 0 (.slice none 0 0) (.slice none 0 0) → Below w.heap.size w W → Calls Tryd.prog 24 #[.pointer (some ⟨w.heap.size + 2, 0, none⟩), .pointer (some ⟨w.heap.size + 1, 0, none⟩)] W fun e w' => ∃ (p : Nat) (y0 y1 y2 y3 y4 y5 y6 y7 y8 : Int) (vo : Value), e = .returned (.tuple #[]) ∧ Cur w' (w.heap.size + 1) (.slice a n cap) p (wErr c) ∧ FR w' (w.heap.size + 2) y0 y1 y2 y3 y4 y5 y6 y7 y8 vo (.slice none 0 0) ∧ Only [w.heap.size + 1, w.heap.size + 2] W w' ∧ p ≤ n) :
    Calls Tryd.prog 8 #[.slice a n cap] w fun e w' => e = .returned (.tuple #[.agg #[.int .i64 0, .int .i64 0, .int .i64 0, .int .i64 0, .int .i64 0, .int .i64 0, .int .i64 0], .int .i64 c]) ∧ Below w.heap.size w w' := by
  have HS0 := hide (DS0.start w #[.int .i64 0, .int .i64 0, .int .i64 0, .int .i64 0, .int .i64 0, .int .i64 0, .int .i64 0] 24 (.slice a n cap))
  have hsz := size_two w (.cells #[.int .i64 0, .int .i64 0, .int .i64 0, .int .i64 0, .int .i64 0, .int .i64 0, .int .i64 0] 24) (.cells #[.slice a n cap, .int .i64 0, .nilIface] 51)
  have HT := hide hT
  clear hT
  have HE := hide he
  clear he
  have HF0 : Hid (FR (((w.alloc (.cells #[.int .i64 0, .int .i64 0, .int .i64 0, .int .i64 0, .int .i64 0, .int .i64 0, .int .i64 0] 24)).alloc (.cells #[.slice a n cap, .int .i64 0, .nilIface] 51)).alloc (.cells #[.int .i64 0, .int .i64 0, .int .i64 0, .int .i64 0, .int .i64 0, .int .i64 0, .int .i64 0, .int .i64 0, .int .i64 0, .slice none 0 0] 53)) (w.heap.size + 2) 0 0 0 0 0 0 0 0 0 (.slice none 0 0) (.slice none 0 0)) := hide (by unfold FR; rw [← hsz]; exact heap_alloc_new _ _)
  have HS1 := hide (HS0.out.next ((Below.refl _ _).alloc (Nat.le_refl _) (.cells #[.int .i64 0, .int .i64 0, .int .i64 0, .int .i64 0, .int .i64 0, .int .i64 0, .int .i64 0, .int .i64 0, .int .i64 0, .slice none 0 0] 53)))
  go_enter Tryd.func8, Tryd.ntmps8
  go_wp2_with fail
  generalize hW : (((w.alloc (.cells #[.int .i64 0, .int .i64 0, .int .i64 0, .int .i64 0, .int .i64 0, .int .i64 0, .int .i64 0] 24)).alloc (.cells #[.slice a n cap, .int .i64 0, .nilIface] 51)).alloc (.cells #[.int .i64 0, .int .i64 0, .int .i64 0, .int .i64 0, .int .i64 0, .int .i64 0, .int .i64 0, .int .i64 0, .int .i64 0, .slice none 0 0] 53)) = W at *
  clear hW HS0 hsz
  refine (HT.out W HS1.out.2.2 HF0.out HS1.out.1).mono ?_
  rintro e w1 ⟨p, y0, y1, y2, y3, y4, y5, y6, y7, y8, vo, rfl, hc, hf, ho, hp⟩
  have HS2 := hide (HS1.out.only ho (by omega) hc)
  have HF2 := hide hf
  obtain ⟨f0, f1, f2, f3, f4, f5, f6, f7, f8, f9, _, ff⟩ := HF2.out.cells
  clear HT HS1 HF0 hc hf ho
  have HT0 := hide (DS1.start HS2.out #[.int .i64 y6, .int .i64 y7, .int .i64 y8, .int .i64 y3, .int .i64 0, .int .i64 0, .int .i64 0] 24)
  have hF : w.heap.size + 1 < w1.heap.size := HS2.out.2.2.lt
  clear HS2
  go_wp2_with fail
  generalize hV : w1.alloc (.cells #[.int .i64 y6, .int .i64 y7, .int .i64 y8, .int .i64 y3, .int .i64 0, .int .i64 0, .int .i64 0] 24) = V0 at *
  clear hV f0 f1 f2 f3 f4 f5 f6 f7 f8 f9 ff HF2
  generalize w1.heap.size = F at *
  have C := hide (take_err (w.heap.size + 1) (p) n cap _ c 2 V0 HT0.out.1.2.2 (by omega) (by omega) (by omega) (by omega))
  refine C.out.mono ?_
  rintro e w' ⟨rfl, mm, rfl⟩
  have HT1 : Hid (DS1 w (V0.drewN mm) #[.int .i64 0, .int .i64 0, .int .i64 0, .int .i64 0, .int .i64 0, .int .i64 0, .int .i64 0] 24 (.slice a n cap) (p) (wErr c) F #[.int .i64 y6, .int .i64 y7, .int .i64 y8, .int .i64 y3, .int .i64 0, .int .i64 0, .int .i64 0] 24) := hide (HT0.out.drewN mm)
  generalize V0.drewN mm = V1 at *
  clear C HT0
  have k0 := HT1.out.2.1.cell 4 _ rfl
  have fz := HT1.out.2.1.frozen
  have HT2 : Hid (DS1 w (V1.setCell ⟨F, 4, none⟩ (.int .i64 0)) #[.int .i64 0, .int .i64 0, .int .i64 0, .int .i64 0, .int .i64 0, .int .i64 0, .int .i64 0] 24 (.slice a n cap) (p) (wErr c) F #[.int .i64 y6, .int .i64 y7, .int .i64 y8, .int .i64 y3, .int .i64 0, .int .i64 0, .int .i64 0] 24) := hide (HT1.out.set 4 (.int .i64 0))
  go_wp2_with fail
  generalize V1.setCell ⟨F, 4, none⟩ (.int .i64 0) = V2 at *
  clear k0 fz HT1
  have C := hide (take_err (w.heap.size + 1) (p) n cap _ c 2 V2 HT2.out.1.2.2 (by omega) (by omega) (by omega) (by omega))
  refine C.out.mono ?_
  rintro e w' ⟨rfl, mm, rfl⟩
  have HT3 : Hid (DS1 w (V2.drewN mm) #[.int .i64 0, .int .i64 0, .int .i64 0, .int .i64 0, .int .i64 0, .int .i64 0, .int .i64 0] 24 (.slice a n cap) (p) (wErr c) F #[.int .i64 y6, .int .i64 y7, .int .i64 y8, .int .i64 y3, .int .i64 0, .int .i64 0, .int .i64 0] 24) := hide (HT2.out.drewN mm)
  generalize V2.drewN mm = V3 at *
  clear C HT2
  have k0 := HT3.out.2.1.cell 5 _ rfl
  have fz := HT3.out.2.1.frozen
  have HT4 : Hid (DS1 w (V3.setCell ⟨F, 5, none⟩ (.int .i64 0)) #[.int .i64 0, .int .i64 0, .int .i64 0, .int .i64 0, .int .i64 0, .int .i64 0, .int .i64 0] 24 (.slice a n cap) (p) (wErr c) F #[.int .i64 y6, .int .i64 y7, .int .i64 y8, .int .i64 y3, .int .i64 0, .int .i64 0, .int .i64 0] 24) := hide (HT3.out.set 5 (.int .i64 0))
  go_wp2_with fail
  generalize V3.setCell ⟨F, 5, none⟩ (.int .i64 0) = V4 at *
  clear k0 fz HT3
  have C := hide (take_err (w.heap.size + 1) (p) n cap _ c 4 V4 HT4.out.1.2.2 (by omega) (by omega) (by omega) (by omega))
  refine C.out.mono ?_
  rintro e w' ⟨rfl, mm, rfl⟩
  have HT5 : Hid (DS1 w (V4.drewN mm) #[.int .i64 0, .int .i64 0, .int .i64 0, .int .i64 0, .int .i64 0, .int .i64 0, .int .i64 0] 24 (.slice a n cap) (p) (wErr c) F #[.int .i64 y6, .int .i64 y7, .int .i64 y8, .int .i64 y3, .int .i64 0, .int .i64 0, .int .i64 0] 24) := hide (HT4.out.drewN mm)
  generalize V4.drewN mm = V5 at *
  clear C HT4
  have k0 := HT5.out.2.1.cell 6 _ rfl
  have fz := HT5.out.2.1.frozen
  have HT6 : Hid (DS1 w (V5.setCell ⟨F, 6, none⟩ (.int .i64 0)) #[.int .i64 0, .int .i64 0, .int .i64 0, .int .i64 0, .int .i64 0, .int .i64 0, .int .i64 0] 24 (.slice a n cap) (p) (wErr c) F #[.int .i64 y6, .int .i64 y7, .int .i64 y8, .int .i64 y3, .int .i64 0, .int .i64 0, .int .i64 0] 24) := hide (HT5.out.set 6 (.int .i64 0))
  go_wp2_with fail
  generalize V5.setCell ⟨F, 6, none⟩ (.int .i64 0) = V6 at *
  clear k0 fz HT5
  have HTD := hide (HT6.out.drew)
  have HE7 := hide (HE.out.below HTD.out.1.1 (Nat.le_refl _))
  clear HE
  have CA := hide (ansQuote_err (y6) (y7) (y8) (y3) (0) (0) (0) c hc0 V6.drew HE7.out)
  have HK : Hid (V6.drew.cell? ⟨F, 0, none⟩ = some (.int .i64 y6) ∧ V6.drew.cell? ⟨F, 1, none⟩ = some (.int .i64 y7) ∧ V6.drew.cell? ⟨F, 2, none⟩ = some (.int .i64 y8) ∧ V6.drew.cell? ⟨F, 3, none⟩ = some (.int .i64 y3) ∧ V6.drew.cell? ⟨F, 4, none⟩ = some (.int .i64 0) ∧ V6.drew.cell? ⟨F, 5, none⟩ = some (.int .i64 0) ∧ V6.drew.cell? ⟨F, 6, none⟩ = some (.int .i64 0) ∧ V6.drew.cell? ⟨w.heap.size + 1, 2, none⟩ = some (wErr c)) := hide ⟨HTD.out.2.1.cell 0 _ rfl, HTD.out.2.1.cell 1 _ rfl, HTD.out.2.1.cell 2 _ rfl, HTD.out.2.1.cell 3 _ rfl, HTD.out.2.1.cell 4 _ rfl, HTD.out.2.1.cell 5 _ rfl, HTD.out.2.1.cell 6 _ rfl, HTD.out.1.2.2.cells.2.2.1⟩
  have hRF : w.heap.size ≠ F := by omega
  have hRC : w.heap.size ≠ w.heap.size + 1 := by omega
  clear HT6 HE7
  go_region_held3 (fun w' => w'.cell? ⟨F, 0, none⟩ = some (.int .i64 y6) ∧ w'.cell? ⟨F, 1, none⟩ = some (.int .i64 y7) ∧ w'.cell? ⟨F, 2, none⟩ = some (.int .i64 y8) ∧ w'.cell? ⟨F, 3, none⟩ = some (.int .i64 y3) ∧ w'.cell? ⟨F, 4, none⟩ = some (.int .i64 0) ∧ w'.cell? ⟨F, 5, none⟩ = some (.int .i64 0) ∧ w'.cell? ⟨F, 6, none⟩ = some (.int .i64 0) ∧ w'.cell? ⟨w.heap.size + 1, 2, none⟩ = some (wErr c)) (first | with_reducible assumption | with_reducible exact HK.out | exact ⟨far7 hRF hk9.1, far7 hRF hk9.2.1, far7 hRF hk9.2.2.1, far7 hRF hk9.2.2.2.1, far7 hRF hk9.2.2.2.2.1, far7 hRF hk9.2.2.2.2.2.1, far7 hRF hk9.2.2.2.2.2.2.1, far7 hRC hk9.2.2.2.2.2.2.2⟩)
    ((go_at_call 26; refine CA.out.mono ?_; rintro e w8 ⟨rfl, hb8⟩; have hk9 : w8.cell? ⟨F, 0, none⟩ = some (.int .i64 y6) ∧ w8.cell? ⟨F, 1, none⟩ = some (.int .i64 y7) ∧ w8.cell? ⟨F, 2, none⟩ = some (.int .i64 y8) ∧ w8.cell? ⟨F, 3, none⟩ = some (.int .i64 y3) ∧ w8.cell? ⟨F, 4, none⟩ = some (.int .i64 0) ∧ w8.cell? ⟨F, 5, none⟩ = some (.int .i64 0) ∧ w8.cell? ⟨F, 6, none⟩ = some (.int .i64 0) ∧ w8.cell? ⟨w.heap.size + 1, 2, none⟩ = some (wErr c) := ⟨(HTD.out.next hb8).2.1.cell 0 _ rfl, (HTD.out.next hb8).2.1.cell 1 _ rfl, (HTD.out.next hb8).2.1.cell 2 _ rfl, (HTD.out.next hb8).2.1.cell 3 _ rfl, (HTD.out.next hb8).2.1.cell 4 _ rfl, (HTD.out.next hb8).2.1.cell 5 _ rfl, (HTD.out.next hb8).2.1.cell 6 _ rfl, (HTD.out.next hb8).1.2.2.cells.2.2.1⟩; have d0 := (HTD.out.next hb8).1.2.1.cell 0 _ rfl; have d1 := (HTD.out.next hb8).1.2.1.cell 1 _ rfl; have d2 := (HTD.out.next hb8).1.2.1.cell 2 _ rfl; have d3 := (HTD.out.next hb8).1.2.1.cell 3 _ rfl; have d4 := (HTD.out.next hb8).1.2.1.cell 4 _ rfl; have d5 := (HTD.out.next hb8).1.2.1.cell 5 _ rfl; have d6 := (HTD.out.next hb8).1.2.1.cell 6 _ rfl; have fz := (HTD.out.next hb8).1.2.1.frozen))
  all_goals
    have HT9 := hide (HTD.out.next hb8)
    clear hb8 HTD CA HK hk9
    go_wp2_with fail
    exact bodyPost_ret (v := .tuple #[.agg #[.int .i64 0, .int .i64 0, .int .i64 0, .int .i64 0, .int .i64 0, .int .i64 0, .int .i64 0], .int .i64 c]) (by simp [results, Tryd.results8, go_sem, d0, d1, d2, d3, d4, d5, d6]) rfl ⟨rfl, (((((((HT9.out.1.1.setCell (p := ⟨w.heap.size, 0, none⟩) (Nat.le_refl _) _).setCell (p := ⟨w.heap.size, 1, none⟩) (Nat.le_refl _) _).setCell (p := ⟨w.heap.size, 2, none⟩) (Nat.le_refl _) _).setCell (p := ⟨w.heap.size, 3, none⟩) (Nat.le_refl _) _).setCell (p := ⟨w.heap.size, 4, none⟩) (Nat.le_refl _) _).setCell (p := ⟨w.heap.size, 5, none⟩) (Nat.le_refl _) _).setCell (p := ⟨w.heap.size, 6, none⟩) (Nat.le_refl _) _)⟩
set_option maxHeartbeats 8000000 in
theorem implQuote_s1 (b off n cap : Nat) (zs : List Int) (y3 y6 y7 y8 : Int) (w : World) (hm : n ≤ 1048576) (hn : zs.length = n) (ha : Arr w (some ⟨b, off, none⟩) zs) (hcap : n ≤ cap) (h0 : 0 < n) (P : Nat) (hP : P ≤ n) (he : ErrT w) (h : n < P + 2)
    (hT : ∀ W, Cur W (w.heap.size + 1) (.slice (some ⟨b, off, none⟩) n cap) 0 .nilIface → FR W (w.heap.size + 2) 0 0 0 0 0 0 0 0 0 (.slice none 0 0) (.slice none 0 0) → Below w.heap.size w W → Calls Tryd.prog 24 #[.pointer (some ⟨w.heap.size + 2, 0, none⟩), .pointer (some ⟨w.heap.size + 1, 0, none⟩)] W fun e w' => ∃ (y0 y1 y2 y4 y5 : Int) (vo : Value), e = .returned (.tuple #[]) ∧ Cur w' (w.heap.size + 1) (.slice (some ⟨b, off, none⟩) n cap) P .nilIface ∧ FR w' (w.heap.size + 2) y0 y1 y2 y3 y4 y5 y6 y7 y8 vo (.slice none 0 0) ∧ Only [w.heap.size + 1, w.heap.size + 2] W w') :
    Calls Tryd.prog 8 #[.slice (some ⟨b, off, none⟩) n cap] w fun e w' => e = .returned (.tuple #[.agg #[.int .i64 0, .int .i64 0, .int .i64 0, .int .i64 0, .int .i64 0, .int .i64 0, .int .i64 0], .int .i64 2]) ∧ Below w.heap.size w w' := by
  have HS0 := hide (DS0.start w #[.int .i64 0, .int .i64 0, .int .i64 0, .int .i64 0, .int .i64 0, .int .i64 0, .int .i64 0] 24 (.slice (some ⟨b, off, none⟩) n cap))
  have hsz := size_two w (.cells #[.int .i64 0, .int .i64 0, .int .i64 0, .int .i64 0, .int .i64 0, .int .i64 0, .int .i64 0] 24) (.cells #[.slice (some ⟨b, off, none⟩) n cap, .int .i64 0, .nilIface] 51)
  have HT := hide hT
  clear hT
  obtain ⟨_, _, e0, hbl, _⟩ := ha.2 0 (by omega)
  cases e0
  have hbne : b ≠ w.heap.size + 1 := by omega
  have HA := hide ha
  have HN := hide hn
  clear ha hn
  have HE := hide he
  clear he
  have HF0 : Hid (FR (((w.alloc (.cells #[.int .i64 0, .int .i64 0, .int .i64 0, .int .i64 0, .int .i64 0, .int .i64 0, .int .i64 0] 24)).alloc (.cells #[.slice (some ⟨b, off, none⟩) n cap, .int .i64 0, .nilIface] 51)).alloc (.cells #[.int .i64 0, .int .i64 0, .int .i64 0, .int .i64 0, .int .i64 0, .int .i64 0, .int .i64 0, .int .i64 0, .int .i64 0, .slice none 0 0] 53)) (w.heap.size + 2) 0 0 0 0 0 0 0 0 0 (.slice none 0 0) (.slice none 0 0)) := hide (by unfold FR; rw [← hsz]; exact heap_alloc_new _ _)
  have HS1 := hide (HS0.out.next ((Below.refl _ _).alloc (Nat.le_refl _) (.cells #[.int .i64 0, .int .i64 0, .int .i64 0, .int .i64 0, .int .i64 0, .int .i64 0, .int .i64 0, .int .i64 0, .int .i64 0, .slice none 0 0] 53)))
  go_enter Tryd.func8, Tryd.ntmps8
  go_wp2_with fail
  generalize hW : (((w.alloc (.cells #[.int .i64 0, .int .i64 0, .int .i64 0, .int .i64 0, .int .i64 0, .int .i64 0, .int .i64 0] 24)).alloc (.cells #[.slice (some ⟨b, off, none⟩) n cap, .int .i64 0, .nilIface] 51)).alloc (.cells #[.int .i64 0, .int .i64 0, .int .i64 0, .int .i64 0, .int .i64 0, .int .i64 0, .int .i64 0, .int .i64 0, .int .i64 0, .slice none 0 0] 53)) = W at *
  clear hW HS0 hsz
  refine (HT.out W HS1.out.2.2 HF0.out HS1.out.1).mono ?_
  rintro e w1 ⟨y0, y1, y2, y4, y5, vo, rfl, hc, hf, ho⟩
  have HS2 := hide (HS1.out.only ho (by omega) hc)
  have HF2 := hide hf
  obtain ⟨f0, f1, f2, f3, f4, f5, f6, f7, f8, f9, _, ff⟩ := HF2.out.cells
  clear HT HS1 HF0 hc hf ho
  have HT0 := hide (DS1.start HS2.out #[.int .i64 y6, .int .i64 y7, .int .i64 y8, .int .i64 y3, .int .i64 0, .int .i64 0, .int .i64 0] 24)
  have hF : w.heap.size + 1 < w1.heap.size := HS2.out.2.2.lt
  clear HS2
  go_wp2_with fail
  generalize hV : w1.alloc (.cells #[.int .i64 y6, .int .i64 y7, .int .i64 y8, .int .i64 y3, .int .i64 0, .int .i64 0, .int .i64 0] 24) = V0 at *
  clear hV f0 f1 f2 f3 f4 f5 f6 f7 f8 f9 ff HF2
  generalize w1.heap.size = F at *
  have C := hide (take_no (w.heap.size + 1) (P) n cap 2 _ V0 HT0.out.1.2.2 (by omega) (by omega) (by omega) (by omega))
  refine C.out.mono ?_
  rintro e V1 ⟨rfl, hc, hg⟩
  have HT1 : Hid (DS1 w V1 #[.int .i64 0, .int .i64 0, .int .i64 0, .int .i64 0, .int .i64 0, .int .i64 0, .int .i64 0] 24 (.slice (some ⟨b, off, none⟩) n cap) (P) (wErr 2) F #[.int .i64 y6, .int .i64 y7, .int .i64 y8, .int .i64 y3, .int .i64 0, .int .i64 0, .int .i64 0] 24) := hide (HT0.out.moved hg hc)
  clear C hc hg HT0
  have k0 := HT1.out.2.1.cell 4 _ rfl
  have fz := HT1.out.2.1.frozen
  have HT2 : Hid (DS1 w (V1.setCell ⟨F, 4, none⟩ (.int .i64 0)) #[.int .i64 0, .int .i64 0, .int .i64 0, .int .i64 0, .int .i64 0, .int .i64 0, .int .i64 0] 24 (.slice (some ⟨b, off, none⟩) n cap) (P) (wErr 2) F #[.int .i64 y6, .int .i64 y7, .int .i64 y8, .int .i64 y3, .int .i64 0, .int .i64 0, .int .i64 0] 24) := hide (HT1.out.set 4 (.int .i64 0))
  go_wp2_with fail
  generalize V1.setCell ⟨F, 4, none⟩ (.int .i64 0) = V2 at *
  clear k0 fz HT1
  have C := hide (take_err (w.heap.size + 1) (P) n cap _ 2 2 V2 HT2.out.1.2.2 (by omega) (by omega) (by omega) (by omega))
  refine C.out.mono ?_
  rintro e w' ⟨rfl, mm, rfl⟩
  have HT3 : Hid (DS1 w (V2.drewN mm) #[.int .i64 0, .int .i64 0, .int .i64 0, .int .i64 0, .int .i64 0, .int .i64 0, .int .i64 0] 24 (.slice (some ⟨b, off, none⟩) n cap) (P) (wErr 2) F #[.int .i64 y6, .int .i64 y7, .int .i64 y8, .int .i64 y3, .int .i64 0, .int .i64 0, .int .i64 0] 24) := hide (HT2.out.drewN mm)
  generalize V2.drewN mm = V3 at *
  clear C HT2
  have k0 := HT3.out.2.1.cell 5 _ rfl
  have fz := HT3.out.2.1.frozen
  have HT4 : Hid (DS1 w (V3.setCell ⟨F, 5, none⟩ (.int .i64 0)) #[.int .i64 0, .int .i64 0, .int .i64 0, .int .i64 0, .int .i64 0, .int .i64 0, .int .i64 0] 24 (.slice (some ⟨b, off, none⟩) n cap) (P) (wErr 2) F #[.int .i64 y6, .int .i64 y7, .int .i64 y8, .int .i64 y3, .int .i64 0, .int .i64 0, .int .i64 0] 24) := hide (HT3.out.set 5 (.int .i64 0))
  go_wp2_with fail
  generalize V3.setCell ⟨F, 5, none⟩ (.int .i64 0) = V4 at *
  clear k0 fz HT3
  have C := hide (take_err (w.heap.size + 1) (P) n cap _ 2 4 V4 HT4.out.1.2.2 (by omega) (by omega) (by omega) (by omega))
  refine C.out.mono ?_
  rintro e w' ⟨rfl, mm, rfl⟩
  have HT5 : Hid (DS1 w (V4.drewN mm) #[.int .i64 0, .int .i64 0, .int .i64 0, .int .i64 0, .int .i64 0, .int .i64 0, .int .i64 0] 24 (.slice (some ⟨b, off, none⟩) n cap) (P) (wErr 2) F #[.int .i64 y6, .int .i64 y7, .int .i64 y8, .int .i64 y3, .int .i64 0, .int .i64 0, .int .i64 0] 24) := hide (HT4.out.drewN mm)
  generalize V4.drewN mm = V5 at *
  clear C HT4
  have k0 := HT5.out.2.1.cell 6 _ rfl
  have fz := HT5.out.2.1.frozen
  have HT6 : Hid (DS1 w (V5.setCell ⟨F, 6, none⟩ (.int .i64 0)) #[.int .i64 0, .int .i64 0, .int .i64 0, .int .i64 0, .int .i64 0, .int .i64 0, .int .i64 0] 24 (.slice (some ⟨b, off, none⟩) n cap) (P) (wErr 2) F #[.int .i64 y6, .int .i64 y7, .int .i64 y8, .int .i64 y3, .int .i64 0, .int .i64 0, .int .i64 0] 24) := hide (HT5.out.set 6 (.int .i64 0))
  go_wp2_with fail
  generalize V5.setCell ⟨F, 6, none⟩ (.int .i64 0) = V6 at *
  clear k0 fz HT5
  have HTD := hide (HT6.out.drew)
  have HE7 := hide (HE.out.below HTD.out.1.1 (Nat.le_refl _))
  clear HE
  have CA := hide (ansQuote_err (y6) (y7) (y8) (y3) (0) (0) (0) 2 (by decide) V6.drew HE7.out)
  have HK : Hid (V6.drew.cell? ⟨F, 0, none⟩ = some (.int .i64 y6) ∧ V6.drew.cell? ⟨F, 1, none⟩ = some (.int .i64 y7) ∧ V6.drew.cell? ⟨F, 2, none⟩ = some (.int .i64 y8) ∧ V6.drew.cell? ⟨F, 3, none⟩ = some (.int .i64 y3) ∧ V6.drew.cell? ⟨F, 4, none⟩ = some (.int .i64 0) ∧ V6.drew.cell? ⟨F, 5, none⟩ = some (.int .i64 0) ∧ V6.drew.cell? ⟨F, 6, none⟩ = some (.int .i64 0) ∧ V6.drew.cell? ⟨w.heap.size + 1, 2, none⟩ = some (wErr 2)) := hide ⟨HTD.out.2.1.cell 0 _ rfl, HTD.out.2.1.cell 1 _ rfl, HTD.out.2.1.cell 2 _ rfl, HTD.out.2.1.cell 3 _ rfl, HTD.out.2.1.cell 4 _ rfl, HTD.out.2.1.cell 5 _ rfl, HTD.out.2.1.cell 6 _ rfl, HTD.out.1.2.2.cells.2.2.1⟩
  have hRF : w.heap.size ≠ F := by omega
  have hRC : w.heap.size ≠ w.heap.size + 1 := by omega
  clear HT6 HE7
  go_region_held3 (fun w' => w'.cell? ⟨F, 0, none⟩ = some (.int .i64 y6) ∧ w'.cell? ⟨F, 1, none⟩ = some (.int .i64 y7) ∧ w'.cell? ⟨F, 2, none⟩ = some (.int .i64 y8) ∧ w'.cell? ⟨F, 3, none⟩ = some (.int .i64 y3) ∧ w'.cell? ⟨F, 4, none⟩ = some (.int .i64 0) ∧ w'.cell? ⟨F, 5, none⟩ = some (.int .i64 0) ∧ w'.cell? ⟨F, 6, none⟩ = some (.int .i64 0) ∧ w'.cell? ⟨w.heap.size + 1, 2, none⟩ = some (wErr 2)) (first | with_reducible assumption | with_reducible exact HK.out | exact ⟨far7 hRF hk9.1, far7 hRF hk9.2.1, far7 hRF hk9.2.2.1, far7 hRF hk9.2.2.2.1, far7 hRF hk9.2.2.2.2.1, far7 hRF hk9.2.2.2.2.2.1, far7 hRF hk9.2.2.2.2.2.2.1, far7 hRC hk9.2.2.2.2.2.2.2⟩)
    ((go_at_call 26; refine CA.out.mono ?_; rintro e w8 ⟨rfl, hb8⟩; have hk9 : w8.cell? ⟨F, 0, none⟩ = some (.int .i64 y6) ∧ w8.cell? ⟨F, 1, none⟩ = some (.int .i64 y7) ∧ w8.cell? ⟨F, 2, none⟩ = some (.int .i64 y8) ∧ w8.cell? ⟨F, 3, none⟩ = some (.int .i64 y3) ∧ w8.cell? ⟨F, 4, none⟩ = some (.int .i64 0) ∧ w8.cell? ⟨F, 5, none⟩ = some (.int .i64 0) ∧ w8.cell? ⟨F, 6, none⟩ = some (.int .i64 0) ∧ w8.cell? ⟨w.heap.size + 1, 2, none⟩ = some (wErr 2) := ⟨(HTD.out.next hb8).2.1.cell 0 _ rfl, (HTD.out.next hb8).2.1.cell 1 _ rfl, (HTD.out.next hb8).2.1.cell 2 _ rfl, (HTD.out.next hb8).2.1.cell 3 _ rfl, (HTD.out.next hb8).2.1.cell 4 _ rfl, (HTD.out.next hb8).2.1.cell 5 _ rfl, (HTD.out.next hb8).2.1.cell 6 _ rfl, (HTD.out.next hb8).1.2.2.cells.2.2.1⟩; have d0 := (HTD.out.next hb8).1.2.1.cell 0 _ rfl; have d1 := (HTD.out.next hb8).1.2.1.cell 1 _ rfl; have d2 := (HTD.out.next hb8).1.2.1.cell 2 _ rfl; have d3 := (HTD.out.next hb8).1.2.1.cell 3 _ rfl; have d4 := (HTD.out.next hb8).1.2.1.cell 4 _ rfl; have d5 := (HTD.out.next hb8).1.2.1.cell 5 _ rfl; have d6 := (HTD.out.next hb8).1.2.1.cell 6 _ rfl; have fz := (HTD.out.next hb8).1.2.1.frozen))
  all_goals
    have HT9 := hide (HTD.out.next hb8)
    clear hb8 HTD CA HK hk9
    go_wp2_with fail
    exact bodyPost_ret (v := .tuple #[.agg #[.int .i64 0, .int .i64 0, .int .i64 0, .int .i64 0, .int .i64 0, .int .i64 0, .int .i64 0], .int .i64 2]) (by simp [results, Tryd.results8, go_sem, d0, d1, d2, d3, d4, d5, d6]) rfl ⟨rfl, (((((((HT9.out.1.1.setCell (p := ⟨w.heap.size, 0, none⟩) (Nat.le_refl _) _).setCell (p := ⟨w.heap.size, 1, none⟩) (Nat.le_refl _) _).setCell (p := ⟨w.heap.size, 2, none⟩) (Nat.le_refl _) _).setCell (p := ⟨w.heap.size, 3, none⟩) (Nat.le_refl _) _).setCell (p := ⟨w.heap.size, 4, none⟩) (Nat.le_refl _) _).setCell (p := ⟨w.heap.size, 5, none⟩) (Nat.le_refl _) _).setCell (p := ⟨w.heap.size, 6, none⟩) (Nat.le_refl _) _)⟩
set_option maxHeartbeats 8000000 in
theorem implQuote_s2 (b off n cap : Nat) (zs : List Int) (y3 y6 y7 y8 : Int) (w : World) (hm : n ≤ 1048576) (hn : zs.length = n) (ha : Arr w (some ⟨b, off, none⟩) zs) (hcap : n ≤ cap) (h0 : 0 < n) (P : Nat) (hP : P ≤ n) (he : ErrT w) (h1 : P + 2 ≤ n) (h : n < P + 2 + 2) (q4 : Int) (hq4 : tnum ((zs.drop P).take 2) = q4)
    (hT : ∀ W, Cur W (w.heap.size + 1) (.slice (some ⟨b, off, none⟩) n cap) 0 .nilIface → FR W (w.heap.size + 2) 0 0 0 0 0 0 0 0 0 (.slice none 0 0) (.slice none 0 0) → Below w.heap.size w W → Calls Tryd.prog 24 #[.pointer (some ⟨w.heap.size + 2, 0, none⟩), .pointer (some ⟨w.heap.size + 1, 0, none⟩)] W fun e w' => ∃ (y0 y1 y2 y4 y5 : Int) (vo : Value), e = .returned (.tuple #[]) ∧ Cur w' (w.heap.size + 1) (.slice (some ⟨b, off, none⟩) n cap) P .nilIface ∧ FR w' (w.heap.size + 2) y0 y1 y2 y3 y4 y5 y6 y7 y8 vo (.slice none 0 0) ∧ Only [w.heap.size + 1, w.heap.size + 2] W w') :
    Calls Tryd.prog 8 #[.slice (some ⟨b, off, none⟩) n cap] w fun e w' => e = .returned (.tuple #[.agg #[.int .i64 0, .int .i64 0, .int .i64 0, .int .i64 0, .int .i64 0, .int .i64 0, .int .i64 0], .int .i64 2]) ∧ Below w.heap.size w w' := by
  have HS0 := hide (DS0.start w #[.int .i64 0, .int .i64 0, .int .i64 0, .int .i64 0, .int .i64 0, .int .i64 0, .int .i64 0] 24 (.slice (some ⟨b, off, none⟩) n cap))
  have hsz := size_two w (.cells #[.int .i64 0, .int .i64 0, .int .i64 0, .int .i64 0, .int .i64 0, .int .i64 0, .int .i64 0] 24) (.cells #[.slice (some ⟨b, off, none⟩) n cap, .int .i64 0, .nilIface] 51)
  have HT := hide hT
  clear hT
  obtain ⟨_, _, e0, hbl, _⟩ := ha.2 0 (by omega)
  cases e0
  have hbne : b ≠ w.heap.size + 1 := by omega
  have HA := hide ha
  have HN := hide hn
  clear ha hn
  have HY4 := hide hq4
  clear hq4
  have HE := hide he
  clear he
  have HF0 : Hid (FR (((w.alloc (.cells #[.int .i64 0, .int .i64 0, .int .i64 0, .int .i64 0, .int .i64 0, .int .i64 0, .int .i64 0] 24)).alloc (.cells #[.slice (some ⟨b, off, none⟩) n cap, .int .i64 0, .nilIface] 51)).alloc (.cells #[.int .i64 0, .int .i64 0, .int .i64 0, .int .i64 0, .int .i64 0, .int .i64 0, .int .i64 0, .int .i64 0, .int .i64 0, .slice none 0 0] 53)) (w.heap.size + 2) 0 0 0 0 0 0 0 0 0 (.slice none 0 0) (.slice none 0 0)) := hide (by unfold FR; rw [← hsz]; exact heap_alloc_new _ _)
  have HS1 := hide (HS0.out.next ((Below.refl _ _).alloc (Nat.le_refl _) (.cells #[.int .i64 0, .int .i64 0, .int .i64 0, .int .i64 0, .int .i64 0, .int .i64 0, .int .i64 0, .int .i64 0, .int .i64 0, .slice none 0 0] 53)))
  go_enter Tryd.func8, Tryd.ntmps8
  go_wp2_with fail
  generalize hW : (((w.alloc (.cells #[.int .i64 0, .int .i64 0, .int .i64 0, .int .i64 0, .int .i64 0, .int .i64 0, .int .i64 0] 24)).alloc (.cells #[.slice (some ⟨b, off, none⟩) n cap, .int .i64 0, .nilIface] 51)).alloc (.cells #[.int .i64 0, .int .i64 0, .int .i64 0, .int .i64 0, .int .i64 0, .int .i64 0, .int .i64 0, .int .i64 0, .int .i64 0, .slice none 0 0] 53)) = W at *
  clear hW HS0 hsz
  refine (HT.out W HS1.out.2.2 HF0.out HS1.out.1).mono ?_
  rintro e w1 ⟨y0, y1, y2, y4, y5, vo, rfl, hc, hf, ho⟩
  have HS2 := hide (HS1.out.only ho (by omega) hc)
  have HF2 := hide hf
  obtain ⟨f0, f1, f2, f3, f4, f5, f6, f7, f8, f9, _, ff⟩ := HF2.out.cells
  clear HT HS1 HF0 hc hf ho
  have HT0 := hide (DS1.start HS2.out #[.int .i64 y6, .int .i64 y7, .int .i64 y8, .int .i64 y3, .int .i64 0, .int .i64 0, .int .i64 0] 24)
  have hF : w.heap.size + 1 < w1.heap.size := HS2.out.2.2.lt
  clear HS2
  go_wp2_with fail
  generalize hV : w1.alloc (.cells #[.int .i64 y6, .int .i64 y7, .int .i64 y8, .int .i64 y3, .int .i64 0, .int .i64 0, .int .i64 0] 24) = V0 at *
  clear hV f0 f1 f2 f3 f4 f5 f6 f7 f8 f9 ff HF2
  generalize w1.heap.size = F at *
  have ct := tk2 (w.heap.size + 1) (P) n cap b off zs V0 HT0.out.1.2.2 hm (by omega) hcap HN.out (HA.out.below HT0.out.1.1 (Nat.le_refl _)) hbne
  rw [HY4.out] at ct
  have C := hide ct
  clear ct
  refine C.out.mono ?_
  rintro e V1 ⟨rfl, hc, hg⟩
  have HT1 : Hid (DS1 w V1 #[.int .i64 0, .int .i64 0, .int .i64 0, .int .i64 0, .int .i64 0, .int .i64 0, .int .i64 0] 24 (.slice (some ⟨b, off, none⟩) n cap) (P + 2) .nilIface F #[.int .i64 y6, .int .i64 y7, .int .i64 y8, .int .i64 y3, .int .i64 0, .int .i64 0, .int .i64 0] 24) := hide (HT0.out.moved hg hc)
  clear C hc hg HT0
  have k0 := HT1.out.2.1.cell 4 _ rfl
  have fz := HT1.out.2.1.frozen
  have HT2 : Hid (DS1 w (V1.setCell ⟨F, 4, none⟩ (.int .i64 q4)) #[.int .i64 0, .int .i64 0, .int .i64 0, .int .i64 0, .int .i64 0, .int .i64 0, .int .i64 0] 24 (.slice (some ⟨b, off, none⟩) n cap) (P + 2) .nilIface F #[.int .i64 y6, .int .i64 y7, .int .i64 y8, .int .i64 y3, .int .i64 q4, .int .i64 0, .int .i64 0] 24) := hide (HT1.out.set 4 (.int .i64 q4))
  go_wp2_with fail
  generalize V1.setCell ⟨F, 4, none⟩ (.int .i64 q4) = V2 at *
  clear k0 fz HT1
  have C := hide (take_no (w.heap.size + 1) (P + 2) n cap 2 _ V2 HT2.out.1.2.2 (by omega) (by omega) (by omega) (by omega))
  refine C.out.mono ?_
  rintro e V3 ⟨rfl, hc, hg⟩
  have HT3 : Hid (DS1 w V3 #[.int .i64 0, .int .i64 0, .int .i64 0, .int .i64 0, .int .i64 0, .int .i64 0, .int .i64 0] 24 (.slice (some ⟨b, off, none⟩) n cap) (P + 2) (wErr 2) F #[.int .i64 y6, .int .i64 y7, .int .i64 y8, .int .i64 y3, .int .i64 q4, .int .i64 0, .int .i64 0] 24) := hide (HT2.out.moved hg hc)
  clear C hc hg HT2
  have k0 := HT3.out.2.1.cell 5 _ rfl
  have fz := HT3.out.2.1.frozen
  have HT4 : Hid (DS1 w (V3.setCell ⟨F, 5, none⟩ (.int .i64 0)) #[.int .i64 0, .int .i64 0, .int .i64 0, .int .i64 0, .int .i64 0, .int .i64 0, .int .i64 0] 24 (.slice (some ⟨b, off, none⟩) n cap) (P + 2) (wErr 2) F #[.int .i64 y6, .int .i64 y7, .int .i64 y8, .int .i64 y3, .int .i64 q4, .int .i64 0, .int .i64 0] 24) := hide (HT3.out.set 5 (.int .i64 0))
  go_wp2_with fail
  generalize V3.setCell ⟨F, 5, none⟩ (.int .i64 0) = V4 at *
  clear k0 fz HT3
  have C := hide (take_err (w.heap.size + 1) (P + 2) n cap _ 2 4 V4 HT4.out.1.2.2 (by omega) (by omega) (by omega) (by omega))
  refine C.out.mono ?_
  rintro e w' ⟨rfl, mm, rfl⟩
  have HT5 : Hid (DS1 w (V4.drewN mm) #[.int .i64 0, .int .i64 0, .int .i64 0, .int .i64 0, .int .i64 0, .int .i64 0, .int .i64 0] 24 (.slice (some ⟨b, off, none⟩) n cap) (P + 2) (wErr 2) F #[.int .i64 y6, .int .i64 y7, .int .i64 y8, .int .i64 y3, .int .i64 q4, .int .i64 0, .int .i64 0] 24) := hide (HT4.out.drewN mm)
  generalize V4.drewN mm = V5 at *
  clear C HT4
  have k0 := HT5.out.2.1.cell 6 _ rfl
  have fz := HT5.out.2.1.frozen
  have HT6 : Hid (DS1 w (V5.setCell ⟨F, 6, none⟩ (.int .i64 0)) #[.int .i64 0, .int .i64 0, .int .i64 0, .int .i64 0, .int .i64 0, .int .i64 0, .int .i64 0] 24 (.slice (some ⟨b, off, none⟩) n cap) (P + 2) (wErr 2) F #[.int .i64 y6, .int .i64 y7, .int .i64 y8, .int .i64 y3, .int .i64 q4, .int .i64 0, .int .i64 0] 24) := hide (HT5.out.set 6 (.int .i64 0))
  go_wp2_with fail
  generalize V5.setCell ⟨F, 6, none⟩ (.int .i64 0) = V6 at *
  clear k0 fz HT5
  have HTD := hide (HT6.out.drew)
  have HE7 := hide (HE.out.below HTD.out.1.1 (Nat.le_refl _))
  clear HE
  have CA := hide (ansQuote_err (y6) (y7) (y8) (y3) (q4) (0) (0) 2 (by decide) V6.drew HE7.out)
  have HK : Hid (V6.drew.cell? ⟨F, 0, none⟩ = some (.int .i64 y6) ∧ V6.drew.cell? ⟨F, 1, none⟩ = some (.int .i64 y7) ∧ V6.drew.cell? ⟨F, 2, none⟩ = some (.int .i64 y8) ∧ V6.drew.cell? ⟨F, 3, none⟩ = some (.int .i64 y3) ∧ V6.drew.cell? ⟨F, 4, none⟩ = some (.int .i64 q4) ∧ V6.drew.cell? ⟨F, 5, none⟩ = some (.int .i64 0) ∧ V6.drew.cell? ⟨F, 6, none⟩ = some (.int .i64 0) ∧ V6.drew.cell? ⟨w.heap.size + 1, 2, none⟩ = some (wErr 2)) := hide ⟨HTD.out.2.1.cell 0 _ rfl, HTD.out.2.1.cell 1 _ rfl, HTD.out.2.1.cell 2 _ rfl, HTD.out.2.1.cell 3 _ rfl, HTD.out.2.1.cell 4 _ rfl, HTD.out.2.1.cell 5 _ rfl, HTD.out.2.1.cell 6 _ rfl, HTD.out.1.2.2.cells.2.2.1⟩
  have hRF : w.heap.size ≠ F := by omega
  have hRC : w.heap.size ≠ w.heap.size + 1 := by omega
  clear HT6 HE7
  go_region_held3 (fun w' => w'.cell? ⟨F, 0, none⟩ = some (.int .i64 y6) ∧ w'.cell? ⟨F, 1, none⟩ = some (.int .i64 y7) ∧ w'.cell? ⟨F, 2, none⟩ = some (.int .i64 y8) ∧ w'.cell? ⟨F, 3, none⟩ = some (.int .i64 y3) ∧ w'.cell? ⟨F, 4, none⟩ = some (.int .i64 q4) ∧ w'.cell? ⟨F, 5, none⟩ = some (.int .i64 0) ∧ w'.cell? ⟨F, 6, none⟩ = some (.int .i64 0) ∧ w'.cell? ⟨w.heap.size + 1, 2, none⟩ = some (wErr 2)) (first | with_reducible assumption | with_reducible exact HK.out | exact ⟨far7 hRF hk9.1, far7 hRF hk9.2.1, far7 hRF hk9.2.2.1, far7 hRF hk9.2.2.2.1, far7 hRF hk9.2.2.2.2.1, far7 hRF hk9.2.2.2.2.2.1, far7 hRF hk9.2.2.2.2.2.2.1, far7 hRC hk9.2.2.2.2.2.2.2⟩)
    ((go_at_call 26; refine CA.out.mono ?_; rintro e w8 ⟨rfl, hb8⟩; have hk9 : w8.cell? ⟨F, 0, none⟩ = some (.int .i64 y6) ∧ w8.cell? ⟨F, 1, none⟩ = some (.int .i64 y7) ∧ w8.cell? ⟨F, 2, none⟩ = some (.int .i64 y8) ∧ w8.cell? ⟨F, 3, none⟩ = some (.int .i64 y3) ∧ w8.cell? ⟨F, 4, none⟩ = some (.int .i64 q4) ∧ w8.cell? ⟨F, 5, none⟩ = some (.int .i64 0) ∧ w8.cell? ⟨F, 6, none⟩ = some (.int .i64 0) ∧ w8.cell? ⟨w.heap.size + 1, 2, none⟩ = some (wErr 2) := ⟨(HTD.out.next hb8).2.1.cell 0 _ rfl, (HTD.out.next hb8).2.1.cell 1 _ rfl, (HTD.out.next hb8).2.1.cell 2 _ rfl, (HTD.out.next hb8).2.1.cell 3 _ rfl, (HTD.out.next hb8).2.1.cell 4 _ rfl, (HTD.out.next hb8).2.1.cell 5 _ rfl, (HTD.out.next hb8).2.1.cell 6 _ rfl, (HTD.out.next hb8).1.2.2.cells.2.2.1⟩; have d0 := (HTD.out.next hb8).1.2.1.cell 0 _ rfl; have d1 := (HTD.out.next hb8).1.2.1.cell 1 _ rfl; have d2 := (HTD.out.next hb8).1.2.1.cell 2 _ rfl; have d3 := (HTD.out.next hb8).1.2.1.cell 3 _ rfl; have d4 := (HTD.out.next hb8).1.2.1.cell 4 _ rfl; have d5 := (HTD.out.next hb8).1.2.1.cell 5 _ rfl; have d6 := (HTD.out.next hb8).1.2.1.cell 6 _ rfl; have fz := (HTD.out.next hb8).1.2.1.frozen))
  all_goals
    have HT9 := hide (HTD.out.next hb8)
    clear hb8 HTD CA HK hk9
    go_wp2_with fail
    exact bodyPost_ret (v := .tuple #[.agg #[.int .i64 0, .int .i64 0, .int .i64 0, .int .i64 0, .int .i64 0, .int .i64 0, .int .i64 0], .int .i64 2]) (by simp [results, Tryd.results8, go_sem, d0, d1, d2, d3, d4, d5, d6]) rfl ⟨rfl, (((((((HT9.out.1.1.setCell (p := ⟨w.heap.size, 0, none⟩) (Nat.le_refl _) _).setCell (p := ⟨w.heap.size, 1, none⟩) (Nat.le_refl _) _).setCell (p := ⟨w.heap.size, 2, none⟩) (Nat.le_refl _) _).setCell (p := ⟨w.heap.size, 3, none⟩) (Nat.le_refl _) _).setCell (p := ⟨w.heap.size, 4, none⟩) (Nat.le_refl _) _).setCell (p := ⟨w.heap.size, 5, none⟩) (Nat.le_refl _) _).setCell (p := ⟨w.heap.size, 6, none⟩) (Nat.le_refl _) _)⟩
set_option maxHeartbeats 8000000 in
theorem implQuote_s3 (b off n cap : Nat) (zs : List Int) (y3 y6 y7 y8 : Int) (w : World) (hm : n ≤ 1048576) (hn : zs.length = n) (ha : Arr w (some ⟨b, off, none⟩) zs) (hcap : n ≤ cap) (h0 : 0 < n) (P : Nat) (hP : P ≤ n) (he : ErrT w) (h1 : P + 4 ≤ n) (h : n < P + 4 + 4) (q4 : Int) (hq4 : tnum ((zs.drop P).take 2) = q4) (q5 : Int) (hq5 : tnum ((zs.drop (P + 2)).take 2) = q5)
    (hT : ∀ W, Cur W (w.heap.size + 1) (.slice (some ⟨b, off, none⟩) n cap) 0 .nilIface → FR W (w.heap.size + 2) 0 0 0 0 0 0 0 0 0 (.slice none 0 0) (.slice none 0 0) → Below w.heap.size w W → Calls Tryd.prog 24 #[.pointer (some ⟨w.heap.size + 2, 0, none⟩), .pointer (some ⟨w.heap.size + 1, 0, none⟩)] W fun e w' => ∃ (y0 y1 y2 y4 y5 : Int) (vo : Value), e = .returned (.tuple #[]) ∧ Cur w' (w.heap.size + 1) (.slice (some ⟨b, off, none⟩) n cap) P .nilIface ∧ FR w' (w.heap.size + 2) y0 y1 y2 y3 y4 y5 y6 y7 y8 vo (.slice none 0 0) ∧ Only [w.heap.size + 1, w.heap.size + 2] W w') :
    Calls Tryd.prog 8 #[.slice (some ⟨b, off, none⟩) n cap] w fun e w' => e = .returned (.tuple #[.agg #[.int .i64 0, .int .i64 0, .int .i64 0, .int .i64 0, .int .i64 0, .int .i64 0, .int .i64 0], .int .i64 2]) ∧ Below w.heap.size w w' := by
  have HS0 := hide (DS0.start w #[.int .i64 0, .int .i64 0, .int .i64 0, .int .i64 0, .int .i64 0, .int .i64 0, .int .i64 0] 24 (.slice (some ⟨b, off, none⟩) n cap))
  have hsz := size_two w (.cells #[.int .i64 0, .int .i64 0, .int .i64 0, .int .i64 0, .int .i64 0, .int .i64 0, .int .i64 0] 24) (.cells #[.slice (some ⟨b, off, none⟩) n cap, .int .i64 0, .nilIface] 51)
  have HT := hide hT
  clear hT
  obtain ⟨_, _, e0, hbl, _⟩ := ha.2 0 (by omega)
  cases e0
  have hbne : b ≠ w.heap.size + 1 := by omega
  have HA := hide ha
  have HN := hide hn
  clear ha hn
  have HY4 := hide hq4
  have HY5 := hide hq5
  clear hq4 hq5
  have HE := hide he
  clear he
  have HF0 : Hid (FR (((w.alloc (.cells #[.int .i64 0, .int .i64 0, .int .i64 0, .int .i64 0, .int .i64 0, .int .i64 0, .int .i64 0] 24)).alloc (.cells #[.slice (some ⟨b, off, none⟩) n cap, .int .i64 0, .nilIface] 51)).alloc (.cells #[.int .i64 0, .int .i64 0, .int .i64 0, .int .i64 0, .int .i64 0, .int .i64 0, .int .i64 0, .int .i64 0, .int .i64 0, .slice none 0 0] 53)) (w.heap.size + 2) 0 0 0 0 0 0 0 0 0 (.slice none 0 0) (.slice none 0 0)) := hide (by unfold FR; rw [← hsz]; exact heap_alloc_new _ _)
  have HS1 := hide (HS0.out.next ((Below.refl _ _).alloc (Nat.le_refl _) (.cells #[.int .i64 0, .int .i64 0, .int .i64 0, .int .i64 0, .int .i64 0, .int .i64 0, .int .i64 0, .int .i64 0, .int .i64 0, .slice none 0 0] 53)))
  go_enter Tryd.func8, Tryd.ntmps8
  go_wp2_with fail
  generalize hW : (((w.alloc (.cells #[.int .i64 0, .int .i64 0, .int .i64 0, .int .i64 0, .int .i64 0, .int .i64 0, .int .i64 0] 24)).alloc (.cells #[.slice (some ⟨b, off, none⟩) n cap, .int .i64 0, .nilIface] 51)).alloc (.cells #[.int .i64 0, .int .i64 0, .int .i64 0, .int .i64 0, .int .i64 0, .int .i64 0, .int .i64 0, .int .i64 0, .int .i64 0, .slice none 0 0] 53)) = W at *
  clear hW HS0 hsz
  refine (HT.out W HS1.out.2.2 HF0.out HS1.out.1).mono ?_
  rintro e w1 ⟨y0, y1, y2, y4, y5, vo, rfl, hc, hf, ho⟩
  have HS2 := hide (HS1.out.only ho (by omega) hc)
  have HF2 := hide hf
  obtain ⟨f0, f1, f2, f3, f4, f5, f6, f7, f8, f9, _, ff⟩ := HF2.out.cells
  clear HT HS1 HF0 hc hf ho
  have HT0 := hide (DS1.start HS2.out #[.int .i64 y6, .int .i64 y7, .int .i64 y8, .int .i64 y3, .int .i64 0, .int .i64 0, .int .i64 0] 24)
  have hF : w.heap.size + 1 < w1.heap.size := HS2.out.2.2.lt
  clear HS2
  go_wp2_with fail
  generalize hV : w1.alloc (.cells #[.int .i64 y6, .int .i64 y7, .int .i64 y8, .int .i64 y3, .int .i64 0, .int .i64 0, .int .i64 0] 24) = V0 at *
  clear hV f0 f1 f2 f3 f4 f5 f6 f7 f8 f9 ff HF2
  generalize w1.heap.size = F at *
  have ct := tk2 (w.heap.size + 1) (P) n cap b off zs V0 HT0.out.1.2.2 hm (by omega) hcap HN.out (HA.out.below HT0.out.1.1 (Nat.le_refl _)) hbne
  rw [HY4.out] at ct
  have C := hide ct
  clear ct
  refine C.out.mono ?_
  rintro e V1 ⟨rfl, hc, hg⟩
  have HT1 : Hid (DS1 w V1 #[.int .i64 0, .int .i64 0, .int .i64 0, .int .i64 0, .int .i64 0, .int .i64 0, .int .i64 0] 24 (.slice (some ⟨b, off, none⟩) n cap) (P + 2) .nilIface F #[.int .i64 y6, .int .i64 y7, .int .i64 y8, .int .i64 y3, .int .i64 0, .int .i64 0, .int .i64 0] 24) := hide (HT0.out.moved hg hc)
  clear C hc hg HT0
  have k0 := HT1.out.2.1.cell 4 _ rfl
  have fz := HT1.out.2.1.frozen
  have HT2 : Hid (DS1 w (V1.setCell ⟨F, 4, none⟩ (.int .i64 q4)) #[.int .i64 0, .int .i64 0, .int .i64 0, .int .i64 0, .int .i64 0, .int .i64 0, .int .i64 0] 24 (.slice (some ⟨b, off, none⟩) n cap) (P + 2) .nilIface F #[.int .i64 y6, .int .i64 y7, .int .i64 y8, .int .i64 y3, .int .i64 q4, .int .i64 0, .int .i64 0] 24) := hide (HT1.out.set 4 (.int .i64 q4))
  go_wp2_with fail
  generalize V1.setCell ⟨F, 4, none⟩ (.int .i64 q4) = V2 at *
  clear k0 fz HT1
  have ct := tk2 (w.heap.size + 1) (P + 2) n cap b off zs V2 HT2.out.1.2.2 hm (by omega) hcap HN.out (HA.out.below HT2.out.1.1 (Nat.le_refl _)) hbne
  rw [HY5.out] at ct
  have C := hide ct
  clear ct
  refine C.out.mono ?_
  rintro e V3 ⟨rfl, hc, hg⟩
  have HT3 : Hid (DS1 w V3 #[.int .i64 0, .int .i64 0, .int .i64 0, .int .i64 0, .int .i64 0, .int .i64 0, .int .i64 0] 24 (.slice (some ⟨b, off, none⟩) n cap) (P + 4) .nilIface F #[.int .i64 y6, .int .i64 y7, .int .i64 y8, .int .i64 y3, .int .i64 q4, .int .i64 0, .int .i64 0] 24) := hide (HT2.out.moved hg hc)
  clear C hc hg HT2
  have k0 := HT3.out.2.1.cell 5 _ rfl
  have fz := HT3.out.2.1.frozen
  have HT4 : Hid (DS1 w (V3.setCell ⟨F, 5, none⟩ (.int .i64 q5)) #[.int .i64 0, .int .i64 0, .int .i64 0, .int .i64 0, .int .i64 0, .int .i64 0, .int .i64 0] 24 (.slice (some ⟨b, off, none⟩) n cap) (P + 4) .nilIface F #[.int .i64 y6, .int .i64 y7, .int .i64 y8, .int .i64 y3, .int .i64 q4, .int .i64 q5, .int .i64 0] 24) := hide (HT3.out.set 5 (.int .i64 q5))
  go_wp2_with fail
  generalize V3.setCell ⟨F, 5, none⟩ (.int .i64 q5) = V4 at *
  clear k0 fz HT3
  have C := hide (take_no (w.heap.size + 1) (P + 4) n cap 4 _ V4 HT4.out.1.2.2 (by omega) (by omega) (by omega) (by omega))
  refine C.out.mono ?_
  rintro e V5 ⟨rfl, hc, hg⟩
  have HT5 : Hid (DS1 w V5 #[.int .i64 0, .int .i64 0, .int .i64 0, .int .i64 0, .int .i64 0, .int .i64 0, .int .i64 0] 24 (.slice (some ⟨b, off, none⟩) n cap) (P + 4) (wErr 2) F #[.int .i64 y6, .int .i64 y7, .int .i64 y8, .int .i64 y3, .int .i64 q4, .int .i64 q5, .int .i64 0] 24) := hide (HT4.out.moved hg hc)
  clear C hc hg HT4
  have k0 := HT5.out.2.1.cell 6 _ rfl
  have fz := HT5.out.2.1.frozen
  have HT6 : Hid (DS1 w (V5.setCell ⟨F, 6, none⟩ (.int .i64 0)) #[.int .i64 0, .int .i64 0, .int .i64 0, .int .i64 0, .int .i64 0, .int .i64 0, .int .i64 0] 24 (.slice (some ⟨b, off, none⟩) n cap) (P + 4) (wErr 2) F #[.int .i64 y6, .int .i64 y7, .int .i64 y8, .int .i64 y3, .int .i64 q4, .int .i64 q5, .int .i64 0] 24) := hide (HT5.out.set 6 (.int .i64 0))
  go_wp2_with fail
  generalize V5.setCell ⟨F, 6, none⟩ (.int .i64 0) = V6 at *
  clear k0 fz HT5
  have HTD := hide (HT6.out.drew)
  have HE7 := hide (HE.out.below HTD.out.1.1 (Nat.le_refl _))
  clear HE
  have CA := hide (ansQuote_err (y6) (y7) (y8) (y3) (q4) (q5) (0) 2 (by decide) V6.drew HE7.out)
  have HK : Hid (V6.drew.cell? ⟨F, 0, none⟩ = some (.int .i64 y6) ∧ V6.drew.cell? ⟨F, 1, none⟩ = some (.int .i64 y7) ∧ V6.drew.cell? ⟨F, 2, none⟩ = some (.int .i64 y8) ∧ V6.drew.cell? ⟨F, 3, none⟩ = some (.int .i64 y3) ∧ V6.drew.cell? ⟨F, 4, none⟩ = some (.int .i64 q4) ∧ V6.drew.cell? ⟨F, 5, none⟩ = some (.int .i64 q5) ∧ V6.drew.cell? ⟨F, 6, none⟩ = some (.int .i64 0) ∧ V6.drew.cell? ⟨w.heap.size + 1, 2, none⟩ = some (wErr 2)) := hide ⟨HTD.out.2.1.cell 0 _ rfl, HTD.out.2.1.cell 1 _ rfl, HTD.out.2.1.cell 2 _ rfl, HTD.out.2.1.cell 3 _ rfl, HTD.out.2.1.cell 4 _ rfl, HTD.out.2.1.cell 5 _ rfl, HTD.out.2.1.cell 6 _ rfl, HTD.out.1.2.2.cells.2.2.1⟩
  have hRF : w.heap.size ≠ F := by omega
  have hRC : w.heap.size ≠ w.heap.size + 1 := by omega
  clear HT6 HE7
  go_region_held3 (fun w' => w'.cell? ⟨F, 0, none⟩ = some (.int .i64 y6) ∧ w'.cell? ⟨F, 1, none⟩ = some (.int .i64 y7) ∧ w'.cell? ⟨F, 2, none⟩ = some (.int .i64 y8) ∧ w'.cell? ⟨F, 3, none⟩ = some (.int .i64 y3) ∧ w'.cell? ⟨F, 4, none⟩ = some (.int .i64 q4) ∧ w'.cell? ⟨F, 5, none⟩ = some (.int .i64 q5) ∧ w'.cell? ⟨F, 6, none⟩ = some (.int .i64 0) ∧ w'.cell? ⟨w.heap.size + 1, 2, none⟩ = some (wErr 2)) (first | with_reducible assumption | with_reducible exact HK.out | exact ⟨far7 hRF hk9.1, far7 hRF hk9.2.1, far7 hRF hk9.2.2.1, far7 hRF hk9.2.2.2.1, far7 hRF hk9.2.2.2.2.1, far7 hRF hk9.2.2.2.2.2.1, far7 hRF hk9.2.2.2.2.2.2.1, far7 hRC hk9.2.2.2.2.2.2.2⟩)
    ((go_at_call 26; refine CA.out.mono ?_; rintro e w8 ⟨rfl, hb8⟩; have hk9 : w8.cell? ⟨F, 0, none⟩ = some (.int .i64 y6) ∧ w8.cell? ⟨F, 1, none⟩ = some (.int .i64 y7) ∧ w8.cell? ⟨F, 2, none⟩ = some (.int .i64 y8) ∧ w8.cell? ⟨F, 3, none⟩ = some (.int .i64 y3) ∧ w8.cell? ⟨F, 4, none⟩ = some (.int .i64 q4) ∧ w8.cell? ⟨F, 5, none⟩ = some (.int .i64 q5) ∧ w8.cell? ⟨F, 6, none⟩ = some (.int .i64 0) ∧ w8.cell? ⟨w.heap.size + 1, 2, none⟩ = some (wErr 2) := ⟨(HTD.out.next hb8).2.1.cell 0 _ rfl, (HTD.out.next hb8).2.1.cell 1 _ rfl, (HTD.out.next hb8).2.1.cell 2 _ rfl, (HTD.out.next hb8).2.1.cell 3 _ rfl, (HTD.out.next hb8).2.1.cell 4 _ rfl, (HTD.out.next hb8).2.1.cell 5 _ rfl, (HTD.out.next hb8).2.1.cell 6 _ rfl, (HTD.out.next hb8).1.2.2.cells.2.2.1⟩; have d0 := (HTD.out.next hb8).1.2.1.cell 0 _ rfl; have d1 := (HTD.out.next hb8).1.2.1.cell 1 _ rfl; have d2 := (HTD.out.next hb8).1.2.1.cell 2 _ rfl; have d3 := (HTD.out.next hb8).1.2.1.cell 3 _ rfl; have d4 := (HTD.out.next hb8).1.2.1.cell 4 _ rfl; have d5 := (HTD.out.next hb8).1.2.1.cell 5 _ rfl; have d6 := (HTD.out.next hb8).1.2.1.cell 6 _ rfl; have fz := (HTD.out.next hb8).1.2.1.frozen))
  all_goals
    have HT9 := hide (HTD.out.next hb8)
    clear hb8 HTD CA HK hk9
    go_wp2_with fail
    exact bodyPost_ret (v := .tuple #[.agg #[.int .i64 0, .int .i64 0, .int .i64 0, .int .i64 0, .int .i64 0, .int .i64 0, .int .i64 0], .int .i64 2]) (by simp [results, Tryd.results8, go_sem, d0, d1, d2, d3, d4, d5, d6]) rfl ⟨rfl, (((((((HT9.out.1.1.setCell (p := ⟨w.heap.size, 0, none⟩) (Nat.le_refl _) _).setCell (p := ⟨w.heap.size, 1, none⟩) (Nat.le_refl _) _).setCell (p := ⟨w.heap.size, 2, none⟩) (Nat.le_refl _) _).setCell (p := ⟨w.heap.size, 3, none⟩) (Nat.le_refl _) _).setCell (p := ⟨w.heap.size, 4, none⟩) (Nat.le_refl _) _).setCell (p := ⟨w.heap.size, 5, none⟩) (Nat.le_refl _) _).setCell (p := ⟨w.heap.size, 6, none⟩) (Nat.le_refl _) _)⟩
set_option maxHeartbeats 8000000 in
theorem implQuote_ok (b off n cap : Nat) (zs : List Int) (y3 y6 y7 y8 : Int) (w : World) (hm : n ≤ 1048576) (hn : zs.length = n) (ha : Arr w (some ⟨b, off, none⟩) zs) (hcap : n ≤ cap) (h0 : 0 < n) (P : Nat) (hP : P ≤ n) (h1 : P + 8 ≤ n) (q4 : Int) (hq4 : tnum ((zs.drop P).take 2) = q4) (q5 : Int) (hq5 : tnum ((zs.drop (P + 2)).take 2) = q5) (q6 : Int) (hq6 : tnum ((zs.drop (P + 4)).take 4) = q6)
    (hT : ∀ W, Cur W (w.heap.size + 1) (.slice (some ⟨b, off, none⟩) n cap) 0 .nilIface → FR W (w.heap.size + 2) 0 0 0 0 0 0 0 0 0 (.slice none 0 0) (.slice none 0 0) → Below w.heap.size w W → Calls Tryd.prog 24 #[.pointer (some ⟨w.heap.size + 2, 0, none⟩), .pointer (some ⟨w.heap.size + 1, 0, none⟩)] W fun e w' => ∃ (y0 y1 y2 y4 y5 : Int) (vo : Value), e = .returned (.tuple #[]) ∧ Cur w' (w.heap.size + 1) (.slice (some ⟨b, off, none⟩) n cap) P .nilIface ∧ FR w' (w.heap.size + 2) y0 y1 y2 y3 y4 y5 y6 y7 y8 vo (.slice none 0 0) ∧ Only [w.heap.size + 1, w.heap.size + 2] W w') :
    Calls Tryd.prog 8 #[.slice (some ⟨b, off, none⟩) n cap] w fun e w' => e = .returned (.tuple #[.agg #[.int .i64 y6, .int .i64 y7, .int .i64 y8, .int .i64 y3, .int .i64 q4, .int .i64 q5, .int .i64 q6], .int .i64 0]) ∧ Below w.heap.size w w' := by
  have HS0 := hide (DS0.start w #[.int .i64 0, .int .i64 0, .int .i64 0, .int .i64 0, .int .i64 0, .int .i64 0, .int .i64 0] 24 (.slice (some ⟨b, off, none⟩) n cap))
  have hsz := size_two w (.cells #[.int .i64 0, .int .i64 0, .int .i64 0, .int .i64 0, .int .i64 0, .int .i64 0, .int .i64 0] 24) (.cells #[.slice (some ⟨b, off, none⟩) n cap, .int .i64 0, .nilIface] 51)
  have HT := hide hT
  clear hT
  obtain ⟨_, _, e0, hbl, _⟩ := ha.2 0 (by omega)
  cases e0
  have hbne : b ≠ w.heap.size + 1 := by omega
  have HA := hide ha
  have HN := hide hn
  clear ha hn
  have HY4 := hide hq4
  have HY5 := hide hq5
  have HY6 := hide hq6
  clear hq4 hq5 hq6
  have HF0 : Hid (FR (((w.alloc (.cells #[.int .i64 0, .int .i64 0, .int .i64 0, .int .i64 0, .int .i64 0, .int .i64 0, .int .i64 0] 24)).alloc (.cells #[.slice (some ⟨b, off, none⟩) n cap, .int .i64 0, .nilIface] 51)).alloc (.cells #[.int .i64 0, .int .i64 0, .int .i64 0, .int .i64 0, .int .i64 0, .int .i64 0, .int .i64 0, .int .i64 0, .int .i64 0, .slice none 0 0] 53)) (w.heap.size + 2) 0 0 0 0 0 0 0 0 0 (.slice none 0 0) (.slice none 0 0)) := hide (by unfold FR; rw [← hsz]; exact heap_alloc_new _ _)
  have HS1 := hide (HS0.out.next ((Below.refl _ _).alloc (Nat.le_refl _) (.cells #[.int .i64 0, .int .i64 0, .int .i64 0, .int .i64 0, .int .i64 0, .int .i64 0, .int .i64 0, .int .i64 0, .int .i64 0, .slice none 0 0] 53)))
  go_enter Tryd.func8, Tryd.ntmps8
  go_wp2_with fail
  generalize hW : (((w.alloc (.cells #[.int .i64 0, .int .i64 0, .int .i64 0, .int .i64 0, .int .i64 0, .int .i64 0, .int .i64 0] 24)).alloc (.cells #[.slice (some ⟨b, off, none⟩) n cap, .int .i64 0, .nilIface] 51)).alloc (.cells #[.int .i64 0, .int .i64 0, .int .i64 0, .int .i64 0, .int .i64 0, .int .i64 0, .int .i64 0, .int .i64 0, .int .i64 0, .slice none 0 0] 53)) = W at *
  clear hW HS0 hsz
  refine (HT.out W HS1.out.2.2 HF0.out HS1.out.1).mono ?_
  rintro e w1 ⟨y0, y1, y2, y4, y5, vo, rfl, hc, hf, ho⟩
  have HS2 := hide (HS1.out.only ho (by omega) hc)
  have HF2 := hide hf
  obtain ⟨f0, f1, f2, f3, f4, f5, f6, f7, f8, f9, _, ff⟩ := HF2.out.cells
  clear HT HS1 HF0 hc hf ho
  have HT0 := hide (DS1.start HS2.out #[.int .i64 y6, .int .i64 y7, .int .i64 y8, .int .i64 y3, .int .i64 0, .int .i64 0, .int .i64 0] 24)
  have hF : w.heap.size + 1 < w1.heap.size := HS2.out.2.2.lt
  clear HS2
  go_wp2_with fail
  generalize hV : w1.alloc (.cells #[.int .i64 y6, .int .i64 y7, .int .i64 y8, .int .i64 y3, .int .i64 0, .int .i64 0, .int .i64 0] 24) = V0 at *
  clear hV f0 f1 f2 f3 f4 f5 f6 f7 f8 f9 ff HF2
  generalize w1.heap.size = F at *
  have ct := tk2 (w.heap.size + 1) (P) n cap b off zs V0 HT0.out.1.2.2 hm (by omega) hcap HN.out (HA.out.below HT0.out.1.1 (Nat.le_refl _)) hbne
  rw [HY4.out] at ct
  have C := hide ct
  clear ct
  refine C.out.mono ?_
  rintro e V1 ⟨rfl, hc, hg⟩
  have HT1 : Hid (DS1 w V1 #[.int .i64 0, .int .i64 0, .int .i64 0, .int .i64 0, .int .i64 0, .int .i64 0, .int .i64 0] 24 (.slice (some ⟨b, off, none⟩) n cap) (P + 2) .nilIface F #[.int .i64 y6, .int .i64 y7, .int .i64 y8, .int .i64 y3, .int .i64 0, .int .i64 0, .int .i64 0] 24) := hide (HT0.out.moved hg hc)
  clear C hc hg HT0
  have k0 := HT1.out.2.1.cell 4 _ rfl
  have fz := HT1.out.2.1.frozen
  have HT2 : Hid (DS1 w (V1.setCell ⟨F, 4, none⟩ (.int .i64 q4)) #[.int .i64 0, .int .i64 0, .int .i64 0, .int .i64 0, .int .i64 0, .int .i64 0, .int .i64 0] 24 (.slice (some ⟨b, off, none⟩) n cap) (P + 2) .nilIface F #[.int .i64 y6, .int .i64 y7, .int .i64 y8, .int .i64 y3, .int .i64 q4, .int .i64 0, .int .i64 0] 24) := hide (HT1.out.set 4 (.int .i64 q4))
  go_wp2_with fail
  generalize V1.setCell ⟨F, 4, none⟩ (.int .i64 q4) = V2 at *
  clear k0 fz HT1
  have ct := tk2 (w.heap.size + 1) (P + 2) n cap b off zs V2 HT2.out.1.2.2 hm (by omega) hcap HN.out (HA.out.below HT2.out.1.1 (Nat.le_refl _)) hbne
  rw [HY5.out] at ct
  have C := hide ct
  clear ct
  refine C.out.mono ?_
  rintro e V3 ⟨rfl, hc, hg⟩
  have HT3 : Hid (DS1 w V3 #[.int .i64 0, .int .i64 0, .int .i64 0, .int .i64 0, .int .i64 0, .int .i64 0, .int .i64 0] 24 (.slice (some ⟨b, off, none⟩) n cap) (P + 4) .nilIface F #[.int .i64 y6, .int .i64 y7, .int .i64 y8, .int .i64 y3, .int .i64 q4, .int .i64 0, .int .i64 0] 24) := hide (HT2.out.moved hg hc)
  clear C hc hg HT2
  have k0 := HT3.out.2.1.cell 5 _ rfl
  have fz := HT3.out.2.1.frozen
  have HT4 : Hid (DS1 w (V3.setCell ⟨F, 5, none⟩ (.int .i64 q5)) #[.int .i64 0, .int .i64 0, .int .i64 0, .int .i64 0, .int .i64 0, .int .i64 0, .int .i64 0] 24 (.slice (some ⟨b, off, none⟩) n cap) (P + 4) .nilIface F #[.int .i64 y6, .int .i64 y7, .int .i64 y8, .int .i64 y3, .int .i64 q4, .int .i64 q5, .int .i64 0] 24) := hide (HT3.out.set 5 (.int .i64 q5))
  go_wp2_with fail
  generalize V3.setCell ⟨F, 5, none⟩ (.int .i64 q5) = V4 at *
  clear k0 fz HT3
  have ct := tk4 (w.heap.size + 1) (P + 4) n cap b off zs V4 HT4.out.1.2.2 hm (by omega) hcap HN.out (HA.out.below HT4.out.1.1 (Nat.le_refl _)) hbne
  rw [HY6.out] at ct
  have C := hide ct
  clear ct
  refine C.out.mono ?_
  rintro e V5 ⟨rfl, hc, hg⟩
  have HT5 : Hid (DS1 w V5 #[.int .i64 0, .int .i64 0, .int .i64 0, .int .i64 0, .int .i64 0, .int .i64 0, .int .i64 0] 24 (.slice (some ⟨b, off, none⟩) n cap) (P + 8) .nilIface F #[.int .i64 y6, .int .i64 y7, .int .i64 y8, .int .i64 y3, .int .i64 q4, .int .i64 q5, .int .i64 0] 24) := hide (HT4.out.moved hg hc)
  clear C hc hg HT4
  have k0 := HT5.out.2.1.cell 6 _ rfl
  have fz := HT5.out.2.1.frozen
  have HT6 : Hid (DS1 w (V5.setCell ⟨F, 6, none⟩ (.int .i64 q6)) #[.int .i64 0, .int .i64 0, .int .i64 0, .int .i64 0, .int .i64 0, .int .i64 0, .int .i64 0] 24 (.slice (some ⟨b, off, none⟩) n cap) (P + 8) .nilIface F #[.int .i64 y6, .int .i64 y7, .int .i64 y8, .int .i64 y3, .int .i64 q4, .int .i64 q5, .int .i64 q6] 24) := hide (HT5.out.set 6 (.int .i64 q6))
  go_wp2_with fail
  generalize V5.setCell ⟨F, 6, none⟩ (.int .i64 q6) = V6 at *
  clear k0 fz HT5
  have HTD := hide (HT6.out.drew)
  have CA := hide (ansQuote_nil (y6) (y7) (y8) (y3) (q4) (q5) (q6) V6.drew)
  have HK : Hid (V6.drew.cell? ⟨F, 0, none⟩ = some (.int .i64 y6) ∧ V6.drew.cell? ⟨F, 1, none⟩ = some (.int .i64 y7) ∧ V6.drew.cell? ⟨F, 2, none⟩ = some (.int .i64 y8) ∧ V6.drew.cell? ⟨F, 3, none⟩ = some (.int .i64 y3) ∧ V6.drew.cell? ⟨F, 4, none⟩ = some (.int .i64 q4) ∧ V6.drew.cell? ⟨F, 5, none⟩ = some (.int .i64 q5) ∧ V6.drew.cell? ⟨F, 6, none⟩ = some (.int .i64 q6) ∧ V6.drew.cell? ⟨w.heap.size + 1, 2, none⟩ = some .nilIface) := hide ⟨HTD.out.2.1.cell 0 _ rfl, HTD.out.2.1.cell 1 _ rfl, HTD.out.2.1.cell 2 _ rfl, HTD.out.2.1.cell 3 _ rfl, HTD.out.2.1.cell 4 _ rfl, HTD.out.2.1.cell 5 _ rfl, HTD.out.2.1.cell 6 _ rfl, HTD.out.1.2.2.cells.2.2.1⟩
  have hRF : w.heap.size ≠ F := by omega
  have hRC : w.heap.size ≠ w.heap.size + 1 := by omega
  clear HT6
  go_region_held3 (fun w' => w'.cell? ⟨F, 0, none⟩ = some (.int .i64 y6) ∧ w'.cell? ⟨F, 1, none⟩ = some (.int .i64 y7) ∧ w'.cell? ⟨F, 2, none⟩ = some (.int .i64 y8) ∧ w'.cell? ⟨F, 3, none⟩ = some (.int .i64 y3) ∧ w'.cell? ⟨F, 4, none⟩ = some (.int .i64 q4) ∧ w'.cell? ⟨F, 5, none⟩ = some (.int .i64 q5) ∧ w'.cell? ⟨F, 6, none⟩ = some (.int .i64 q6) ∧ w'.cell? ⟨w.heap.size + 1, 2, none⟩ = some .nilIface) (first | with_reducible assumption | with_reducible exact HK.out | exact ⟨far7 hRF hk9.1, far7 hRF hk9.2.1, far7 hRF hk9.2.2.1, far7 hRF hk9.2.2.2.1, far7 hRF hk9.2.2.2.2.1, far7 hRF hk9.2.2.2.2.2.1, far7 hRF hk9.2.2.2.2.2.2.1, far7 hRC hk9.2.2.2.2.2.2.2⟩)
    ((go_at_call 26; refine CA.out.mono ?_; rintro e w8 ⟨rfl, hb8⟩; have hk9 : w8.cell? ⟨F, 0, none⟩ = some (.int .i64 y6) ∧ w8.cell? ⟨F, 1, none⟩ = some (.int .i64 y7) ∧ w8.cell? ⟨F, 2, none⟩ = some (.int .i64 y8) ∧ w8.cell? ⟨F, 3, none⟩ = some (.int .i64 y3) ∧ w8.cell? ⟨F, 4, none⟩ = some (.int .i64 q4) ∧ w8.cell? ⟨F, 5, none⟩ = some (.int .i64 q5) ∧ w8.cell? ⟨F, 6, none⟩ = some (.int .i64 q6) ∧ w8.cell? ⟨w.heap.size + 1, 2, none⟩ = some .nilIface := ⟨(HTD.out.next hb8).2.1.cell 0 _ rfl, (HTD.out.next hb8).2.1.cell 1 _ rfl, (HTD.out.next hb8).2.1.cell 2 _ rfl, (HTD.out.next hb8).2.1.cell 3 _ rfl, (HTD.out.next hb8).2.1.cell 4 _ rfl, (HTD.out.next hb8).2.1.cell 5 _ rfl, (HTD.out.next hb8).2.1.cell 6 _ rfl, (HTD.out.next hb8).1.2.2.cells.2.2.1⟩; have d0 := (HTD.out.next hb8).1.2.1.cell 0 _ rfl; have d1 := (HTD.out.next hb8).1.2.1.cell 1 _ rfl; have d2 := (HTD.out.next hb8).1.2.1.cell 2 _ rfl; have d3 := (HTD.out.next hb8).1.2.1.cell 3 _ rfl; have d4 := (HTD.out.next hb8).1.2.1.cell 4 _ rfl; have d5 := (HTD.out.next hb8).1.2.1.cell 5 _ rfl; have d6 := (HTD.out.next hb8).1.2.1.cell 6 _ rfl; have fz := (HTD.out.next hb8).1.2.1.frozen))
  all_goals
    have HT9 := hide (HTD.out.next hb8)
    clear hb8 HTD CA HK hk9
    go_wp2_with fail
    exact bodyPost_ret (v := .tuple #[.agg #[.int .i64 y6, .int .i64 y7, .int .i64 y8, .int .i64 y3, .int .i64 q4, .int .i64 q5, .int .i64 q6], .int .i64 0]) (by simp [results, Tryd.results8, go_sem, d0, d1, d2, d3, d4, d5, d6]) rfl ⟨rfl, (((((((HT9.out.1.1.setCell (p := ⟨w.heap.size, 0, none⟩) (Nat.le_refl _) _).setCell (p := ⟨w.heap.size, 1, none⟩) (Nat.le_refl _) _).setCell (p := ⟨w.heap.size, 2, none⟩) (Nat.le_refl _) _).setCell (p := ⟨w.heap.size, 3, none⟩) (Nat.le_refl _) _).setCell (p := ⟨w.heap.size, 4, none⟩) (Nat.le_refl _) _).setCell (p := ⟨w.heap.size, 5, none⟩) (Nat.le_refl _) _).setCell (p := ⟨w.heap.size, 6, none⟩) (Nat.le_refl _) _)⟩
end Go.Proofs.YtakoagfeiolkjaaDoor
