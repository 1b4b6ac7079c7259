/-
Contracts of functions of this seat.
-/
import Derived.Test.YtcnfnimgpiaamaaDoorRows
import Derived.WalkKit
import Derived.ProofKit
import Derived.OpenShut
import Derived.Test.YtcnfnimgpiaamaaDoorLkp
namespace Go.Proofs.YtcnfnimgpiaamaaDoor
open Go.ChangeShapes Go.WideShapes Go.ChangeAt Go.RowKit
set_option linter.unusedVariables false
set_option maxRecDepth 100000
/-- A box laid at the world's end, and kept. -/
def BoxV (w W : World) (vs : Array Value) (T : Nat) : Prop := Below w.heap.size w W ∧ w.heap.size < W.heap.size ∧ W.heap[w.heap.size]? = some (.cells vs T)
theorem BoxV.start (w : World) (vs : Array Value) (T : Nat) : BoxV w (w.alloc (.cells vs T)) vs T :=
  ⟨(Below.refl _ _).alloc (Nat.le_refl _) _, by rw [World.size_alloc]; omega, heap_alloc_new _ _⟩
theorem BoxV.next {w W W' : World} {vs : Array Value} {T : Nat} (h : BoxV w W vs T) (hb : Below W.heap.size W W') : BoxV w W' vs T :=
  ⟨h.1.trans (hb.mono (Nat.le_of_lt h.2.1)), Nat.lt_of_lt_of_le h.2.1 hb.size, (hb.block _ h.2.1).trans h.2.2⟩
theorem BoxV.keep {w W W' : World} {vs : Array Value} {T B : Nat} (h : BoxV w W vs T) (hb : Below B W W') (hB : w.heap.size < B) : BoxV w W' vs T :=
  ⟨h.1.trans (hb.mono (Nat.le_of_lt hB)), Nat.lt_of_lt_of_le h.2.1 hb.size, (hb.block _ hB).trans h.2.2⟩
def HoldV (w : World) (H : Nat) (vs : Array Value) (T : Nat) : Prop := w.heap[H]? = some (.cells vs T)
theorem HoldV.lt {w : World} {H T : Nat} {vs : Array Value} (h : HoldV w H vs T) : H < w.heap.size := (Array.getElem?_eq_some_iff.1 h).1
theorem HoldV.below {w w' : World} {H T B : Nat} {vs : Array Value} (h : HoldV w H vs T) (hb : Below B w w') (hB : H < B) : HoldV w' H vs T := (hb.block H hB).trans h
theorem HoldV.next {w w' : World} {H T : Nat} {vs : Array Value} (h : HoldV w H vs T) (hb : Below w.heap.size w w') : HoldV w' H vs T := h.below hb h.lt
theorem HoldV.cell {w : World} {H T : Nat} {vs : Array Value} (h : HoldV w H vs T) (i : Nat) (v : Value) (hv : vs[i]? = some v) : w.cell? ⟨H, i, none⟩ = some v := (cell_of_row _ _ _ _ _ _ h).trans hv
theorem HoldV.frozen {w : World} {H T : Nat} {vs : Array Value} (h : HoldV w H vs T) (o : Nat) : w.frozen? ⟨H, o, none⟩ = false := frozen_of_row w H o _ _ h
theorem two_allocs (w : World) (o1 o2 : Obj) : Below w.heap.size w ((w.alloc o1).alloc o2) ∧ ((w.alloc o1).alloc o2).heap[w.heap.size]? = some o1 ∧ ((w.alloc o1).alloc o2).heap[w.heap.size + 1]? = some o2 := by
  have s1 := World.size_alloc w o1
  refine ⟨((Below.refl _ _).alloc (Nat.le_refl _) _).alloc (by omega) _, ?_, ?_⟩
  · rw [((Below.refl (w.alloc o1).heap.size _).alloc (Nat.le_refl _) o2).block w.heap.size (by omega)]; exact heap_alloc_new _ _
  · rw [← s1]; exact heap_alloc_new _ _
theorem BoxV.cell {w W : World} {vs : Array Value} {T : Nat} (h : BoxV w W vs T) (i : Nat) (v : Value) (hv : vs[i]? = some v) : W.cell? ⟨w.heap.size, i, none⟩ = some v := cell_of_row _ _ _ _ _ _ h.2.2 |>.trans hv
theorem lt_cell {w : World} {b i : Nat} {v : Value} (h : w.cell? ⟨b, i, none⟩ = some v) : b < w.heap.size := by
  rcases Nat.lt_or_ge b w.heap.size with h' | h'
  · exact h'
  · simp [World.cell?, Array.getElem?_eq_none h'] at h

theorem eqStretch_walk (a b : Int) (w : World) :
    Calls Tryd.prog 80 #[.agg #[.int .i64 a, .int .i64 b], .agg #[.int .i64 a, .int .i64 b]] w fun e w' => e = .returned (.bool true) ∧ Below w.heap.size w w' := by
  go_enter Tryd.func80, Tryd.ntmps80
  go_wp2
  go_ret
  exact ⟨rfl, ((Below.refl _ _).alloc (Nat.le_refl _) _).alloc (by simp) _⟩
theorem toStretch_walk (a b : Int) (w : World) :
    Calls Tryd.prog 69 #[.agg #[.int .i64 a, .int .i64 b]] w fun e w' => e = .returned (.agg #[.int .i64 a, .int .i64 b]) ∧ Below w.heap.size w w' := by
  go_enter Tryd.func69, Tryd.ntmps69
  go_wp2
  exact bodyPost_ret (v := .agg #[.int .i64 a, .int .i64 b]) (by simp [results, Tryd.results69, go_sem]) rfl ⟨rfl, (((Below.refl _ _).alloc (Nat.le_refl _) _).alloc (by simp) _).alloc (by simp; omega) _⟩

set_option maxHeartbeats 1000000 in
theorem markStretch_some (g off cap n B : Nat) (zs : List Int) (k : Nat) (w : World) (h : OwnI w B 53 2 (.slice (some ⟨g, off, none⟩) n cap) n zs) (hm : n ≤ 2097152) (hk : k ≤ 1073741824) :
    Calls Tryd.prog 50 #[.slice (some ⟨g, off, none⟩) n cap, .int .i64 (k : Int)] w fun e w' => e = .returned (.int .i64 ((k : Int) + 2 * (n : Int))) ∧ OwnI w' B 53 2 (.slice (some ⟨g, off, none⟩) n cap) n (mksI k (n * 2)) ∧ w.grownBy w' (some g) := by
  have HN : Hid (zs.length = n * 2) := hide (by have := h.len; omega)
  have HO := hide h
  clear h
  have hr : w.grownBy w (some g) := World.grownBy.refl _ _
  go_enter Tryd.func50, Tryd.ntmps50
  go_wp2_with fail
  go_loopw [1, 5] (fun s t w2 => ∃ i : Nat, i ≤ n ∧ s = .int .i64 ((k : Int) + 2 * (i : Int)) ∧ t = .int .i64 i ∧ Hid (OwnI w2 B 53 2 (.slice (some ⟨g, off, none⟩) n cap) n (mkdI k zs (i * 2))) ∧ w.grownBy w2 (some g)) (fun _ t _ => n - (intOf t).toNat)
  case atStart => exact ⟨0, Nat.zero_le _, by go_num, rfl, hide (by rw [Nat.zero_mul, mkdI_zero]; exact HO.out), hr⟩
  case round =>
    obtain ⟨i, hi, rfl, rfl, HO2, hg⟩ := hrel
    by_cases hlt : i < n
    · have HLN : Hid (i * 2 + 2 ≤ zs.length) := hide (by rw [HN.out]; omega)
      obtain ⟨o0, c0⟩ : ∃ o, wr.cell? ⟨g, off + i * 2, none⟩ = some o := ⟨_, HO2.out.cell (i * 2) (by rw [mkdI_len _ _ _ (by have := HLN.out; omega)]; have := HLN.out; omega)⟩
      obtain ⟨o1, c1⟩ : ∃ o, wr.cell? ⟨g, off + i * 2 + 1, none⟩ = some o := ⟨_, by rw [Nat.add_assoc]; exact HO2.out.cell (i * 2 + 1) (by rw [mkdI_len _ _ _ (by have := HLN.out; omega)]; have := HLN.out; omega)⟩
      have hz : ∀ o, wr.frozen? ⟨g, o, none⟩ = false := HO2.out.frozen
      go_wp2_with fail
      have h0 := HO2.out.mark (j := i * 2) (z := (k : Int) + 2 * (i : Int)) (by have := HLN.out; omega) (by omega)
      have h1 := h0.1.mark (j := i * 2 + 1) (z := (k : Int) + 2 * (i : Int) + 1) (by have := HLN.out; omega) (by omega)
      rw [← Nat.add_assoc] at h1
      exact ⟨⟨i + 1, by omega, by go_num, by go_num, hide (by rw [show (i + 1) * 2 = i * 2 + 1 + 1 by omega]; exact h1.1), grown_trans (grown_trans (hg) h0.2) h1.2⟩, by simp [intOf]; omega⟩
    · have hi' : i = n := by omega
      subst hi'
      have HE : Hid (mkdI k zs (i * 2) = mksI k (i * 2)) := hide (mkdI_end k zs _ HN.out)
      go_wp2_with fail
      go_ret
      exact ⟨rfl, by rw [← HE.out]; exact HO2.out, hg⟩
theorem markStretch_nil (k : Nat) (w : World) (hk : k ≤ 1073741824) :
    Calls Tryd.prog 50 #[.slice none 0 0, .int .i64 (k : Int)] w fun e w' => e = .returned (.int .i64 (k : Int)) ∧ w' = w := by
  go_enter Tryd.func50, Tryd.ntmps50
  go_wp2_with fail
  go_loop [1, 5] (fun s t => s = .int .i64 (k : Int) ∧ t = .int .i64 0) (fun _ _ => 0)
  case atStart => exact ⟨rfl, rfl⟩
  case round =>
    obtain ⟨rfl, rfl⟩ := hrel
    go_wp2_with fail
    go_ret
    exact ⟨rfl, rfl⟩
theorem markStretch_walk (v : Value) (B n : Nat) (zs : List Int) (k : Nat) (w : World) (h : OwnI w B 53 2 v n zs) (hm : n ≤ 2097152) (hk : k ≤ 1073741824) :
    Calls Tryd.prog 50 #[v, .int .i64 (k : Int)] w fun e w' => e = .returned (.int .i64 ((k : Int) + 2 * (n : Int))) ∧ OwnI w' B 53 2 v n (mksI k (n * 2)) ∧ w.grownBy w' v.ownBlock := by
  rcases h.form with ⟨rfl, rfl⟩ | ⟨g, off, cap, rfl, _⟩
  · refine (markStretch_nil k w hk).mono ?_
    rintro e w' ⟨rfl, rfl⟩
    exact ⟨by simp, by simpa [mksI] using OwnI.nil w' B 53 2, World.grownBy.refl _ _⟩
  · exact markStretch_some g off cap n B zs k w h hm hk

set_option maxHeartbeats 1000000 in
theorem heldStretch_walk (a : Option Addr) (n cap k : Nat) (w : World) (h : ArrI w a (mksI k (n * 2))) (hm : n ≤ 2097152) (hk : k ≤ 1073741824) :
    Calls Tryd.prog 51 #[.slice a n cap, .int .i64 (k : Int)] w fun e w' => e = .returned (.int .i64 ((k : Int) + 2 * (n : Int))) ∧ w' = w := by
  have HA := hide h
  clear h
  go_enter Tryd.func51, Tryd.ntmps51
  go_wp2_with fail
  go_loop [1, 5] (fun s t => ∃ i : Nat, i ≤ n ∧ s = .int .i64 ((k : Int) + 2 * (i : Int)) ∧ t = .int .i64 i) (fun _ t => n - (intOf t).toNat)
  case atStart => exact ⟨0, Nat.zero_le _, by go_num, rfl⟩
  case round =>
    obtain ⟨i, hi, rfl, rfl⟩ := hrel
    by_cases hlt : i < n
    · have hlt2 : i * 2 + 2 ≤ n * 2 := by omega
      obtain ⟨b, off, rfl, hb0, c0⟩ := HA.out (i * 2) (by rw [mksI_len]; omega)
      rw [mksI_get _ _ _ (by omega)] at c0
      have c1 : w.cell? ⟨b, off + (i * 2 + 1), none⟩ = some (.int .i64 ((k : Int) + 2 * (i : Int) + 1)) := by
        obtain ⟨b', o', e, _, c⟩ := HA.out (i * 2 + 1) (by rw [mksI_len]; omega)
        cases e
        rw [mksI_get _ _ _ (by omega), show (k : Int) + ((i * 2 + 1 : Nat) : Int) = (k : Int) + 2 * (i : Int) + 1 by omega] at c
        exact c
      rw [← Nat.add_assoc] at c1
      rw [show (k : Int) + ((i * 2 : Nat) : Int) = (k : Int) + 2 * (i : Int) by omega] at c0
      go_wp2_with fail
      exact ⟨⟨i + 1, by omega, by go_num, by go_num⟩, by simp [intOf]; omega⟩
    · have hi' : i = n := by omega
      subst hi'
      go_wp2_with fail
      go_ret
      exact ⟨rfl, rfl⟩

set_option maxHeartbeats 1000000 in
theorem eqStretchS_walk (a b : Option Addr) (n c1 c2 : Nat) (zs : List Int) (w : World) (hn : zs.length = n * 2) (ha : ArrI w a zs) (hb : ArrI w b zs) (hm : n ≤ 1048576) :
    Calls Tryd.prog 35 #[.slice a n c1, .slice b n c2] w fun e w' => e = .returned (.bool true) ∧ Below w.heap.size w w' := by
  have HN := hide hn
  have HA := hide ha
  have HB := hide hb
  clear hn ha hb
  go_enter Tryd.func35, Tryd.ntmps35
  go_wp2_with fail
  go_loopw [5] (fun t w2 => ∃ i : Nat, i ≤ n ∧ t = .int .i64 i ∧ Below w.heap.size w w2) (fun t _ => n - (intOf t).toNat)
  case atStart => exact ⟨0, Nat.zero_le _, rfl, Below.refl _ _⟩
  case round =>
    obtain ⟨i, hi, rfl, hbel⟩ := hrel
    by_cases hlt : i < n
    · have hlt2 : i * 2 + 2 ≤ n * 2 := by omega
      obtain ⟨b1, o1, rfl, hb1, _⟩ := HA.out (i * 2) (by rw [HN.out]; omega)
      have g0 : wr.cell? ⟨b1, o1 + (i * 2), none⟩ = some (.int .i64 (zs.getD (i * 2) 0)) := by
        obtain ⟨b', o', e, _, c⟩ := HA.out (i * 2) (by rw [HN.out]; omega)
        cases e
        rw [hbel.cell (p := ⟨b1, o1 + (i * 2), none⟩) hb1]; exact c
      have g1 : wr.cell? ⟨b1, o1 + (i * 2 + 1), none⟩ = some (.int .i64 (zs.getD (i * 2 + 1) 0)) := by
        obtain ⟨b', o', e, _, c⟩ := HA.out (i * 2 + 1) (by rw [HN.out]; omega)
        cases e
        rw [hbel.cell (p := ⟨b1, o1 + (i * 2 + 1), none⟩) hb1]; exact c
      rw [← Nat.add_assoc] at g1
      obtain ⟨b2, o2, rfl, hb2, _⟩ := HB.out (i * 2) (by rw [HN.out]; omega)
      have h0 : wr.cell? ⟨b2, o2 + (i * 2), none⟩ = some (.int .i64 (zs.getD (i * 2) 0)) := by
        obtain ⟨b', o', e, _, c⟩ := HB.out (i * 2) (by rw [HN.out]; omega)
        cases e
        rw [hbel.cell (p := ⟨b2, o2 + (i * 2), none⟩) hb2]; exact c
      have h1 : wr.cell? ⟨b2, o2 + (i * 2 + 1), none⟩ = some (.int .i64 (zs.getD (i * 2 + 1) 0)) := by
        obtain ⟨b', o', e, _, c⟩ := HB.out (i * 2 + 1) (by rw [HN.out]; omega)
        cases e
        rw [hbel.cell (p := ⟨b2, o2 + (i * 2 + 1), none⟩) hb2]; exact c
      rw [← Nat.add_assoc] at h1
      generalize zs.getD (i * 2) 0 = z0 at *
      generalize zs.getD (i * 2 + 1) 0 = z1 at *
      have kg0 := cell_regrown g0
      have kg1 := cell_regrown g1
      have kh0 := cell_regrown h0
      have kh1 := cell_regrown h1
      have cE : ∀ d os, Calls Tryd.prog 80 #[.agg #[.int .i64 z0, .int .i64 z1], .agg #[.int .i64 z0, .int .i64 z1]] (Go.Sort.grow (redrawn wr d) os) fun e w'' => e = .returned (.bool true) ∧ ∃ p : Regrown, w'' = Go.Sort.grow (redrawn wr p.d) p.os := fun d os => Calls.regrown_of (eqStretch_walk z0 z1 (Go.Sort.grow (redrawn wr d) os))
      clear g0 g1 h0 h1
      go_wp2_with fail
      refine wp_region_quiet_below (by kernel_rfl) (by kernel_rfl) ?_
      repeat (first | go_big_quiet_step ((go_at_call 80; exact cE _ _)) | quiet_step ((go_at_call 80; exact cE _ _)))
      refine wpQuiet_nil ?_
      intro _ hw'
      obtain ⟨⟨dq, osq⟩, hw''⟩ := hw'
      subst hw''
      go_wp2
      exact ⟨⟨i + 1, by omega, by go_num, below_then hbel dq osq⟩, by simp [intOf]; omega⟩
    · go_wp2
      go_ret
      exact ⟨rfl, hbel⟩

theorem Tryd.infoStretch : (Tryd.prog.info? 53).map (fun i => (i.zero, i.size, i.bytes)) = some (some (.agg #[.int .i64 0, .int .i64 0]), 2, 16) := by kernel_rfl
set_option maxHeartbeats 4000000 in
theorem toStretchS_walk (a : Option Addr) (n cap : Nat) (zs : List Int) (w : World) (hn : zs.length = n * 2) (h : ArrI w a zs) (hm : n ≤ 1048576) :
    Calls Tryd.prog 31 #[.slice a n cap] w fun e w' => e = .returned (.slice (some ⟨w.heap.size, 0, none⟩) n n) ∧ OwnI w' w.heap.size 53 2 (.slice (some ⟨w.heap.size, 0, none⟩) n n) n zs ∧ Below w.heap.size w w' := by
  obtain ⟨i, hi, hz0, hz1, hz2⟩ := info_parts Tryd.infoStretch
  have HN := hide hn
  have HA := hide h
  clear hn h
  go_enter Tryd.func31, Tryd.ntmps31
  go_wp2_with (first | (at_make; refine wpList_make_full _ rfl _ _ 29 rfl w.heap.size 53 i _ 2 Tryd.underlying29 hi hz0 hz1 _ _ _ _ n rfl rfl rfl rfl (by rw [hz2]; omega) (by unfold maxLen; omega) (Nat.le_refl _) ?_))
  intro w1 hown hgrow
  have hbel : Below w.heap.size w w1 := (Below.refl _ _).grown hgrow (Nat.le_refl _) (fun k hk => by cases hk)
  have hsz : w.heap.size < w1.heap.size := (hown.lt w.heap.size rfl).2
  clear hgrow hi hz0 hz1 hz2
  have HO : Hid (Filled w1 w.heap.size 53 2 (.slice (some ⟨w.heap.size, 0, none⟩) n n) n zs 0) := hide ⟨_, hown, fun q hq => absurd hq (by omega)⟩
  clear hown
  go_wp2_with fail
  go_loopw [4] (fun t w2 => ∃ j : Nat, j ≤ n ∧ t = .int .i64 j ∧ Below w.heap.size w w2 ∧ w.heap.size < w2.heap.size ∧ Hid (Filled w2 w.heap.size 53 2 (.slice (some ⟨w.heap.size, 0, none⟩) n n) n zs (j * 2))) (fun t _ => n - (intOf t).toNat)
  case atStart => exact ⟨0, Nat.zero_le _, rfl, hbel, hsz, hide (by rw [Nat.zero_mul]; exact HO.out)⟩
  case round =>
    obtain ⟨j, hj, rfl, hb, hs2, HF⟩ := hrel
    by_cases hlt : j < n
    · have hlt2 : j * 2 + 2 ≤ n * 2 := by omega
      obtain ⟨b, off, rfl, hbs, _⟩ := HA.out (j * 2) (by rw [HN.out]; omega)
      have c0 : wr.cell? ⟨b, off + (j * 2), none⟩ = some (.int .i64 (zs.getD (j * 2) 0)) := by
        obtain ⟨b', o', e, _, c⟩ := HA.out (j * 2) (by rw [HN.out]; omega)
        cases e
        rw [hb.cell (p := ⟨b, off + (j * 2), none⟩) hbs]; exact c
      have c1 : wr.cell? ⟨b, off + (j * 2 + 1), none⟩ = some (.int .i64 (zs.getD (j * 2 + 1) 0)) := by
        obtain ⟨b', o', e, _, c⟩ := HA.out (j * 2 + 1) (by rw [HN.out]; omega)
        cases e
        rw [hb.cell (p := ⟨b, off + (j * 2 + 1), none⟩) hbs]; exact c
      rw [← Nat.add_assoc] at c1
      obtain ⟨x0, hx0⟩ : ∃ x, x = zs.getD (j * 2) 0 := ⟨_, rfl⟩
      rw [← hx0] at c0
      have HX0 := hide hx0
      obtain ⟨x1, hx1⟩ : ∃ x, x = zs.getD (j * 2 + 1) 0 := ⟨_, rfl⟩
      rw [← hx1] at c1
      have HX1 := hide hx1
      clear hx0 hx1
      have CT := hide (toStretch_walk x0 x1 wr)
      go_wp2_with fail
      refine CT.out.mono ?_
      rintro e w2 ⟨rfl, hw2⟩
      have hb2 : Below w.heap.size w w2 := hb.trans (hw2.mono (Nat.le_of_lt hs2))
      have hs3 : w.heap.size < w2.heap.size := Nat.lt_of_lt_of_le hs2 hw2.size
      have HF2 := hide (HF.out.next hw2)
      obtain ⟨p0, d0⟩ := HF2.out.old (j * 2) (by omega)
      obtain ⟨p1, d1⟩ := HF2.out.old (j * 2 + 1) (by omega)
      have hz : ∀ o, w2.frozen? ⟨w.heap.size, o, none⟩ = false := HF2.out.frozen
      clear hw2 CT HF
      go_wp2_with fail
      have s0 := HF2.out.step (m := j * 2) (z := x0) (by omega) HX0.out
      have s1 := s0.step (m := j * 2 + 1) (z := x1) (by omega) HX1.out
      exact ⟨⟨j + 1, by omega, by go_num, ((hb2.setCell (p := ⟨w.heap.size, j * 2, none⟩) (Nat.le_refl _) _).setCell (p := ⟨w.heap.size, j * 2 + 1, none⟩) (Nat.le_refl _) _), by simpa using hs3, hide (by rw [show (j + 1) * 2 = j * 2 + 1 + 1 by omega]; exact s1)⟩, by simp [intOf]; omega⟩
    · have hj' : j = n := by omega
      subst hj'
      go_wp2_with fail
      go_ret
      exact ⟨rfl, HF.out.done HN.out, hb⟩

/-- A row of stretches as data. -/
abbrev stD (n : Nat) (zs : List Int) : D := .s 53 2 n (nums zs)
theorem mkL_nums : ∀ (zs : List Int) (k : Nat), mkL k (nums zs) = nums (mksI k zs.length)
  | [], _ => rfl
  | z :: zs, k => by
    have ih := mkL_nums zs (k + 1)
    have e : mksI k (z :: zs).length = (k : Int) :: mksI (k + 1) zs.length := by
      unfold mksI
      rw [List.length_cons, List.range_succ_eq_map, List.map_cons, List.map_map]
      congr 1
      simp
      intro a _
      omega
    rw [e]
    show mkD k (.c (.int .i64 z)) :: mkL (k + szD (.c (.int .i64 z))) (nums zs) = .c (.int .i64 (k : Int)) :: nums (mksI (k + 1) zs.length)
    rw [← ih]
    rfl
theorem stD_read {w : World} {B n m c : Nat} {zs : List Int} {a : Option Addr} {bs : List Nat} (h : Holds w B (stD n zs) (.slice a m c) bs) : ArrI w a zs ∧ zs.length = n * 2 ∧ m = n ∧ n ≤ c := by
  have ho := (holds_flat.1 h).1
  obtain ⟨a', c', e, ha, hc⟩ := OwnI.arr ho
  cases e
  exact ⟨ha, ho.len, rfl, hc⟩
theorem eqSt_d (zs : List Int) (a b : Option Addr) (n c d : Nat) (B1 B2 : Nat) (f1 f2 : List Nat) (w : World) (h1 : Holds w B1 (stD n zs) (.slice a n c) f1) (h2 : Holds w B2 (stD n zs) (.slice b n d) f2) (hm : n ≤ 1048576) :
    Calls Tryd.prog 35 #[.slice a n c, .slice b n d] w fun e w' => e = .returned (.bool true) ∧ Below w.heap.size w w' :=
  eqStretchS_walk a b n c d zs w (stD_read h1).2.1 (stD_read h1).1 (stD_read h2).1 hm
theorem toSt_d (zs : List Int) (a : Option Addr) (n cap : Nat) (w : World) (hn : zs.length = n * 2) (h : ArrI w a zs) (hm : n ≤ 1048576) :
    Calls Tryd.prog 31 #[.slice a n cap] w fun e w' => ∃ (a' : Option Addr) (k' : Nat) (f : List Nat), e = .returned (.slice a' n k') ∧ Holds w' w.heap.size (stD n zs) (.slice a' n k') f ∧ f.Nodup ∧ Below w.heap.size w w' := by
  refine (toStretchS_walk a n cap zs w hn h hm).mono ?_
  rintro e w' ⟨rfl, hO, hb⟩
  exact ⟨_, _, _, rfl, holds_flat.2 ⟨hO, rfl⟩, by simp [Value.ownBlock], hb⟩
theorem markSt_d (zs : List Int) (a : Option Addr) (n c B : Nat) (bs : List Nat) (k : Nat) (w : World) (h : Holds w B (stD n zs) (.slice a n c) bs) (hnd : bs.Nodup) (hm : n ≤ 1048576) (hk : k + 2 * n ≤ 1073741824) :
    Calls Tryd.prog 50 #[.slice a n c, .int .i64 (k : Int)] w fun e w' => e = .returned (.int .i64 ((k + 2 * n : Nat) : Int)) ∧ Holds w' B (mkD k (stD n zs)) (.slice a n c) bs ∧ Only bs w w' := by
  obtain ⟨ho, hb⟩ := holds_flat.1 h
  refine (markStretch_walk _ B n zs k w ho (by omega) (by omega)).mono ?_
  rintro e w' ⟨rfl, ho', hg⟩
  refine ⟨by rw [show ((k + 2 * n : Nat) : Int) = (k : Int) + 2 * (n : Int) by omega], ?_, ?_⟩
  · show Holds w' B (.s 53 2 n (mkL k (nums zs))) _ bs
    rw [mkL_nums, ho.len]
    exact holds_flat.2 ⟨ho', hb⟩
  · rw [hb]
    exact Only.of_grown hg
theorem heldSt_d (zs : List Int) (a : Option Addr) (n c B : Nat) (bs : List Nat) (k : Nat) (w : World) (hn : zs.length = n * 2) (h : Holds w B (mkD k (stD n zs)) (.slice a n c) bs) (hm : n ≤ 1048576) (hk : k + 2 * n ≤ 1073741824) :
    Calls Tryd.prog 51 #[.slice a n c, .int .i64 (k : Int)] w fun e w' => e = .returned (.int .i64 ((k + 2 * n : Nat) : Int)) ∧ Below w.heap.size w w' := by
  have h' : Holds w B (stD n (mksI k (n * 2))) (.slice a n c) bs := by
    have e : mkD k (stD n zs) = stD n (mksI k (n * 2)) := by
      show D.s 53 2 n (mkL k (nums zs)) = _
      rw [mkL_nums, hn]
    rw [← e]; exact h
  refine (heldStretch_walk a n c k w (stD_read h').1 (by omega) (by omega)).mono ?_
  rintro e w' ⟨rfl, rfl⟩
  exact ⟨by rw [show ((k + 2 * n : Nat) : Int) = (k : Int) + 2 * (n : Int) by omega], Below.refl _ _⟩
theorem ownSt_holds {w : World} {B r : Nat} {v : Value} {zs : List Int} (h : OwnI w B 53 2 v r zs) : ∃ (a : Option Addr) (c : Nat), v = .slice a r c ∧ Holds w B (stD r zs) (.slice a r c) v.ownBlock.toList := by
  obtain ⟨a, c, rfl, _⟩ := OwnI.arr h
  exact ⟨a, c, rfl, holds_flat.2 ⟨h, rfl⟩⟩
theorem szSt_walk (a : Option Addr) (n cap : Nat) (left : Int) (w : World) (hm : n ≤ 9223372036854775807) (h0 : 0 ≤ left) (h1 : left ≤ 1048576) :
    Calls Tryd.prog 24 #[.slice a n cap, .int .i64 left] w fun e w' => e = .returned (.int .i64 (if left < (n : Int) then -1 else left - (n : Int))) ∧ w' = w := by
  by_cases h : left < (n : Int)
  · rw [if_pos h]
    go_enter Tryd.func24, Tryd.ntmps24
    go_wp2
    go_ret
    exact ⟨rfl, rfl⟩
  · rw [if_neg h]
    go_enter Tryd.func24, Tryd.ntmps24
    go_wp2
    go_ret
    exact ⟨rfl, rfl⟩
theorem szSt_d (a : Option Addr) (n cap : Nat) (l l' : Int) (hl : l' = l - (n : Int)) (h0 : 0 ≤ l') (h1 : l ≤ 1048576) (w : World) : Calls Tryd.prog 24 #[.slice a n cap, .int .i64 l] w fun e w' => e = .returned (.int .i64 l') ∧ Below w.heap.size w w' := by
  have h := szSt_walk a n cap l w (by omega) (by omega) h1
  rw [if_neg (by omega), ← hl] at h
  refine h.mono ?_
  rintro e w' ⟨rfl, rfl⟩
  exact ⟨rfl, Below.refl _ _⟩
end Go.Proofs.YtcnfnimgpiaamaaDoor
