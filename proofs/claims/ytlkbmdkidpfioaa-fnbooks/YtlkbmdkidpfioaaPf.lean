/-
Contracts of functions of this seat.
-/
import Derived.Test.YtlkbmdkidpfioaaRows
import Derived.WalkKit
import Derived.ProofKit
import Derived.OpenShut
import Derived.Deep.QuietTactic
import Derived.Below
import Derived.Laws.Externs
import Derived.OwnWalk
import Derived.BigQuiet
import Derived.ArgAppend
import Derived.RegionTactic
import Derived.ChangeAlike
import Derived.Lib.QuietBelow
import Derived.Laws.OwnMore
import Derived.Lib.MinMax
import Derived.Deep.RegionHeld3
import Derived.Deep.RegionWith
import Derived.Deep.DeepAppendRoom
import Derived.Deep.Cut
import Derived.Laws.MakeOwn
import Derived.Deep.RegionLawGrows
import Derived.Deep.AppendLies
import Derived.StillTailTactics
import Derived.Test.YtlkbmdkidpfioaaPe
namespace Go.Proofs.Ytlkbmdkidpfioaa
open Go.ChangeShapes Go.WideShapes Go.ChangeAt Go.RowKit
set_option linter.unusedVariables false
set_option maxRecDepth 100000
set_option maxRecDepth 100000
theorem row2_grb {w w' : World} {B e K n g : Nat} {v : Value} {xs : List Value} (h : w.ownsRow B e K v n xs) (hg : w.grownBy w' (some g)) (hB : g < B) : w'.ownsRow B e K v n xs := by
  refine ⟨h.1, ?_⟩
  rcases h.2 with h0 | ⟨b, cap, cur, hv, hb, hc, rest⟩
  · exact .inl h0
  · exact .inr ⟨b, cap, cur, hv, hb, (hg.block b (Array.getElem?_eq_some_iff.1 hc).1 (fun e => by have := Option.some.inj e; omega)).trans hc, rest⟩
theorem row2_nx {w w' : World} {B e K n : Nat} {v : Value} {xs : List Value} (h : w.ownsRow B e K v n xs) (hb : Below w.heap.size w w') : w'.ownsRow B e K v n xs := by
  refine ⟨h.1, ?_⟩
  rcases h.2 with h0 | ⟨b, cap, cur, hv, hB, hc, rest⟩
  · exact .inl h0
  · exact .inr ⟨b, cap, cur, hv, hB, (hb.block b (Array.getElem?_eq_some_iff.1 hc).1).trans hc, rest⟩
theorem st_cells {W : World} {b : Nat} {f t : Int} (hb : HoldV W b #[.int .i64 f, .int .i64 t] 43) : ∀ j u, (ival [f, t])[j]? = some u → W.cell? ((⟨b, 0, none⟩ : Addr).add j) = some u := by
  intro j u hj
  match j with
  | 0 => simp [ival] at hj; subst hj; exact hb.cell 0 _ rfl
  | 1 => simp [ival] at hj; subst hj; exact hb.cell 1 _ rfl
  | j + 2 => simp [ival] at hj
theorem ival_one2 (f t : Int) : ∀ u ∈ ival [f, t], u.oneCell' = true := by intro u hu; simp [ival] at hu; rcases hu with rfl | rfl <;> rfl
/-- l15Sacks under way. -/
def SkM (w W : World) (g len : Nat) (a0 : Option Addr) (cap0 : Nat) (u x : Int) (aa : Option Addr) (n c : Nat) (v : Value) (m : Nat) (zs : List Int) : Prop :=
  DS w W g len a0 cap0 ∧ HoldV W w.heap.size #[.int .i64 u, .int .i64 x, .slice aa n c] 29 ∧ W.ownsRow (w.heap.size + 1) 43 2 v m (ival zs)
theorem SkM.next {w W W' : World} {g len cap0 n c m : Nat} {a0 aa : Option Addr} {u x : Int} {v : Value} {zs : List Int} (h : SkM w W g len a0 cap0 u x aa n c v m zs) (hb : Below W.heap.size W W') : SkM w W' g len a0 cap0 u x aa n c v m zs := ⟨h.1.next hb, h.2.1.next hb, row2_nx h.2.2 hb⟩
theorem SkM.step {w W W' : World} {g len cap0 n c m : Nat} {a0 aa : Option Addr} {u x : Int} {v : Value} {zs : List Int} (h : SkM w W g len a0 cap0 u x aa n c v m zs) (hg : W.grownBy W' (some g)) (hs : SrcA W' g 54 len a0 cap0) : SkM w W' g len a0 cap0 u x aa n c v m zs :=
  ⟨h.1.step hg hs, hv_gr h.2.1 hg (by have := h.1.lt; omega), row2_grb h.2.2 hg (by have := h.1.lt; omega)⟩
theorem SkM.put {w W W' : World} {g len cap0 n c m b : Nat} {a0 aa : Option Addr} {u x : Int} {v : Value} {zs : List Int} (h : SkM w W g len a0 cap0 u x aa n c v m zs) (hg : W.grownBy W' (some b)) (hb : w.heap.size < b) (hv : v.ownBlock ≠ some b) : SkM w W' g len a0 cap0 u x aa n c v m zs := by
  refine ⟨h.1.put hg (by omega), hv_gr h.2.1 hg (by omega), h.2.2.1, ?_⟩
  rcases h.2.2.2 with h0 | ⟨k, cap, cur, e, hB, hc, rest⟩
  · exact .inl h0
  · exact .inr ⟨k, cap, cur, e, hB, (hg.block k (Array.getElem?_eq_some_iff.1 hc).1 (fun e2 => hv (by rw [e, ← Option.some.inj e2]; rfl))).trans hc, rest⟩
theorem SkM.app {w W W' : World} {g len cap0 n c m m' : Nat} {a0 aa : Option Addr} {u x : Int} {v v' : Value} {zs zs' : List Int} (h : SkM w W g len a0 cap0 u x aa n c v m zs) (hg : W.grownBy W' v.ownBlock) (hr : W'.ownsRow (w.heap.size + 1) 43 2 v' m' (ival zs')) : SkM w W' g len a0 cap0 u x aa n c v' m' zs' := by
  have hl := ownsAt.lt (ownsAt.of_row h.2.2)
  cases hv : v.ownBlock with
  | none =>
    rw [hv] at hg
    have hb : Below W.heap.size W W' := ⟨hg.os, hg.tape, hg.output, hg.size, fun k hk => hg.block k hk (by simp)⟩
    exact ⟨h.1.next hb, h.2.1.next hb, hr⟩
  | some b =>
    rw [hv] at hg
    have h1 := (hl b hv).1
    exact ⟨h.1.put hg (by omega), hv_gr h.2.1 hg (by omega), hr⟩
/-- What each operation leaves where the second piece is drawn. -/
def A7 (X g n c : Nat) (aa : Option Addr) (k8 : Nat) : Nat → Value → World → Prop
  | 0, v, _ => v = .int .i64 (k8 : Int)
  | 1, v, _ => v = .pointer (some ⟨g, 0, none⟩)
  | 2, v, _ => ∃ y : Int, v = .int .i64 y ∧ 0 ≤ y ∧ y < 3
  | 3, v, _ => ∃ y : Int, v = .int .i64 y ∧ 0 ≤ y
  | 4, v, _ => v = .pointer (some ⟨X, 2, none⟩)
  | 5, v, _ => v = .slice aa n c
  | 6, v, _ => v = .int .i64 (n : Int)
  | 7, v, _ => v = .int .i64 ((n : Int) - 1)
  | 8, v, _ => ∃ z : Nat, v = .int .i64 (z : Int) ∧ z < n
  | _, _, _ => True
theorem A7_kept {X g n c : Nat} {aa : Option Addr} {k8 : Nat} : ∀ (i : Nat) (v : Value) (W W' : World), W.grownBy W' (some g) → A7 X g n c aa k8 i v W → A7 X g n c aa k8 i v W' := by
  intro i v W W' hg h
  unfold A7 at h ⊢
  split at h <;> exact h
/-- What l15Sacks leaves. -/
def SkP (w : World) (g len : Nat) (a0 : Option Addr) (cap0 : Nat) (e : Ending) (w' : World) : Prop := ∃ (bb : Option Addr) (m k : Nat) (zs : List Int), e = .returned (.slice bb m k) ∧ m ≤ 3 ∧ w'.ownsRow (w.heap.size + 1) 43 2 (.slice bb m k) m (ival zs) ∧ w.grownBy w' (some g) ∧ SrcA w' g 54 len a0 cap0
set_option maxHeartbeats 16000000 in
theorem l15Sacks_walk (g len : Nat) (a0 : Option Addr) (cap0 : Nat) (u x : Int) (aa : Option Addr) (n c : Nat) (os : List PieceM) (w : World) (hS : Sr0 w g len a0 cap0) (hn : os.length = n) (hA : ∀ W, w.grownBy W (some g) → ArrP W aa (os.flatMap valPiece)) (hm : n ≤ 4096) :
    Calls Try.prog 56 #[.pointer (some ⟨g, 0, none⟩), .agg #[.int .i64 u, .int .i64 x, .slice aa n c]] w fun e w' => SkP w g len a0 cap0 e w' := by
  obtain ⟨ip, hi, hz0, hz1, hz2⟩ := info_parts Try.infoStretch
  have HI := hide hi; have HI0 := hide hz0; have HI1 := hide hz1; have HI2 := hide hz2
  have HN := hide hn; have HA := hide hA
  have hgl := hS.lt
  have hal := (Below.refl w.heap.size w).alloc (Nat.le_refl _) (.cells #[.int .i64 u, .int .i64 x, .slice aa n c] 29)
  have hal2 : Below (w.alloc (.cells #[.int .i64 u, .int .i64 x, .slice aa n c] 29)).heap.size (w.alloc (.cells #[.int .i64 u, .int .i64 x, .slice aa n c] 29)) ((w.alloc (.cells #[.int .i64 u, .int .i64 x, .slice aa n c] 29)).alloc (.cells #[] 43)) := (Below.refl _ _).alloc (Nat.le_refl _) _
  have hs1 : (w.alloc (.cells #[.int .i64 u, .int .i64 x, .slice aa n c] 29)).heap.size = w.heap.size + 1 := World.size_alloc _ _
  have HK0 : Hid (SkM w ((w.alloc (.cells #[.int .i64 u, .int .i64 x, .slice aa n c] 29)).alloc (.cells #[] 43)) g len a0 cap0 u x aa n c (.slice (some ⟨(w.alloc (.cells #[.int .i64 u, .int .i64 x, .slice aa n c] 29)).heap.size, 0, none⟩) 0 0) 0 []) := hide ⟨((DS.start hS).next hal).next hal2, (show HoldV _ _ _ _ from hv_new w #[.int .i64 u, .int .i64 x, .slice aa n c] 29).next hal2, by simp [ival], .inr ⟨_, 0, #[], rfl, by rw [hs1]; exact Nat.le_refl _, heap_alloc_new _ _, Nat.le_refl _, by unfold maxLen; omega, by simp, by simp [ival]⟩⟩
  clear hi hz0 hz1 hz2 hn hA hS hal hal2 hs1
  go_enter Try.func56, Try.ntmps56
  go_wp2_with fail
  have hz : (w.alloc (.cells #[.int .i64 u, .int .i64 x, .slice aa n c] 29)).heap.size = w.heap.size + 1 := World.size_alloc _ _
  rw [hz] at HK0
  clear hz
  generalize ((w.alloc (.cells #[.int .i64 u, .int .i64 x, .slice aa n c] 29)).alloc (.cells #[] 43)) = V at *
  refine (HK0.out.1.draw 4 (by omega) (by omega)).mono ?_
  rintro e V1 ⟨nn, rfl, pnn, qnn, hg1, hs1⟩
  have HK1 := hide (HK0.out.step hg1 hs1)
  clear HK0 hg1 hs1
  go_wp2_with fail
  go_loopw [5, 7] (fun s t w2 => ∃ (m : Nat) (bb : Option Addr) (k : Nat) (zs : List Int), t = .int .i64 m ∧ (m : Int) ≤ nn ∧ s = .slice bb m k ∧ Hid (SkM w w2 g len a0 cap0 u x aa n c (.slice bb m k) m zs)) (fun _ t _ => 4 - (intOf t).toNat)
  case atStart => exact ⟨0, _, _, [], rfl, by omega, rfl, HK1⟩
  case round =>
    obtain ⟨m, bb, k, zs, rfl, hi, rfl, HK2⟩ := hrel
    clear HK1
    rename World => V2
    have b2 := HK2.out.2.1.cell 2 _ rfl
    by_cases hlt : (m : Int) < nn
    · by_cases h0 : 0 < n
      · go_wp2_with fail
        clear b2
        refine (HK2.out.1.draw (n : Int) (by omega) (by omega)).mono ?_
        rintro e V3 ⟨k8, rfl, pk8, qk8, hg3, hs3⟩
        have HK3 := hide (HK2.out.step hg3 hs3)
        clear HK2 hg3 hs3
        obtain ⟨k8, rfl⟩ := Int.eq_ofNat_of_zero_le pk8
        go_upto_region 7 with fail
        refine wp_region_last2 (fun W W2 => W.grownBy W2 (some g)) (fun W => SkM w W g len a0 cap0 u x aa n c (.slice bb m k) m zs) (A7 w.heap.size g n c aa k8) _ rfl (by kernel_rfl) (by kernel_rfl) (by kernel_rfl) (by kernel_rfl) A7_kept (HK3.out.next (Below.refl _ _).drew) ?_ ?_
        · clear HK3
          refine EachBut.one _ _ _ ?_ ?_
          · intro v W hB hp KK hKK
            rw [if_pos (by rfl)]
            have hp1 : AllOf (A7 w.heap.size g n c aa k8) v W [] := hp
            clear hp
            simp only [putAll, Act.put, List.setIfInBounds_toArray, List.set_cons_zero, List.set_cons_succ, Nat.reduceAdd] at hKK ⊢
            clear hp1
            go_simp
            refine hKK _ _ (grown_reflp _ _) hB ?_
            rfl
          refine EachBut.one _ _ _ ?_ ?_
          · intro v W hB hp KK hKK
            rw [if_pos (by rfl)]
            have hp1 : AllOf (A7 w.heap.size g n c aa k8) v W [] := hp
            clear hp
            simp only [putAll, Act.put, List.setIfInBounds_toArray, List.set_cons_zero, List.set_cons_succ, Nat.reduceAdd] at hKK ⊢
            clear hp1
            go_simp
            refine hKK _ _ (grown_reflp _ _) hB ?_
            rfl
          refine EachBut.one _ _ _ ?_ ?_
          · intro v W hB hp KK hKK
            rw [if_pos (by rfl)]
            have hp1 : AllOf (A7 w.heap.size g n c aa k8) v W [1] := hp
            clear hp
            simp only [putAll, Act.put, List.setIfInBounds_toArray, List.set_cons_zero, List.set_cons_succ, Nat.reduceAdd] at hKK ⊢
            have e1 : v 1 = .pointer (some ⟨g, 0, none⟩) := hp1.1
            simp only [e1] at hKK ⊢
            clear e1
            clear hp1
            go_simp
            go_at_call 54
            refine (hB.1.draw 3 (by omega) (by omega)).mono ?_
            rintro e W3 ⟨y, rfl, y0, y1, hg, hs⟩
            have hB3 := hB.step hg hs
            clear hB hs
            go_simp
            refine hKK _ _ hg hB3 ?_
            exact ⟨y, rfl, y0, y1⟩
          refine EachBut.one _ _ _ ?_ ?_
          · intro v W hB hp KK hKK
            rw [if_pos (by rfl)]
            have hp1 : AllOf (A7 w.heap.size g n c aa k8) v W [0, 2] := hp
            clear hp
            simp only [putAll, Act.put, List.setIfInBounds_toArray, List.set_cons_zero, List.set_cons_succ, Nat.reduceAdd] at hKK ⊢
            have e0 : v 0 = .int .i64 (k8 : Int) := hp1.1
            obtain ⟨y, e2, y0, y1⟩ := hp1.2.1
            simp only [e2] at hKK ⊢
            clear e2
            simp only [e0] at hKK ⊢
            clear e0
            clear hp1
            go_simp
            refine hKK _ _ (grown_reflp _ _) hB ?_
            exact ⟨_, rfl, by rw [IntKind.wrap_i64]; omega⟩
          refine EachBut.one _ _ _ ?_ ?_
          · intro v W hB hp KK hKK
            rw [if_pos (by rfl)]
            have hp1 : AllOf (A7 w.heap.size g n c aa k8) v W [] := hp
            clear hp
            simp only [putAll, Act.put, List.setIfInBounds_toArray, List.set_cons_zero, List.set_cons_succ, Nat.reduceAdd] at hKK ⊢
            clear hp1
            go_simp
            refine hKK _ _ (grown_reflp _ _) hB ?_
            rfl
          refine EachBut.one _ _ _ ?_ ?_
          · intro v W hB hp KK hKK
            rw [if_pos (by rfl)]
            have hp1 : AllOf (A7 w.heap.size g n c aa k8) v W [4] := hp
            clear hp
            simp only [putAll, Act.put, List.setIfInBounds_toArray, List.set_cons_zero, List.set_cons_succ, Nat.reduceAdd] at hKK ⊢
            have e4 : v 4 = .pointer (some ⟨w.heap.size, 2, none⟩) := hp1.1
            have hc := hB.2.1.cell 2 _ rfl
            simp only [e4] at hKK ⊢
            clear e4
            clear hp1
            go_simp
            refine hKK _ _ (grown_reflp _ _) hB ?_
            rfl
          refine EachBut.one _ _ _ ?_ ?_
          · intro v W hB hp KK hKK
            rw [if_pos (by rfl)]
            have hp1 : AllOf (A7 w.heap.size g n c aa k8) v W [5] := hp
            clear hp
            simp only [putAll, Act.put, List.setIfInBounds_toArray, List.set_cons_zero, List.set_cons_succ, Nat.reduceAdd] at hKK ⊢
            have e5 : v 5 = .slice aa n c := hp1.1
            simp only [e5] at hKK ⊢
            clear e5
            clear hp1
            go_simp
            refine hKK _ _ (grown_reflp _ _) hB ?_
            rfl
          refine EachBut.one _ _ _ ?_ ?_
          · intro v W hB hp KK hKK
            rw [if_pos (by rfl)]
            have hp1 : AllOf (A7 w.heap.size g n c aa k8) v W [6] := hp
            clear hp
            simp only [putAll, Act.put, List.setIfInBounds_toArray, List.set_cons_zero, List.set_cons_succ, Nat.reduceAdd] at hKK ⊢
            have e6 : v 6 = .int .i64 (n : Int) := hp1.1
            simp only [e6] at hKK ⊢
            clear e6
            clear hp1
            go_simp
            refine hKK _ _ (grown_reflp _ _) hB ?_
            exact congrArg (Value.int .i64) (by rw [IntKind.wrap_i64]; omega)
          refine EachBut.one _ _ _ ?_ ?_
          · intro v W hB hp KK hKK
            rw [if_pos (by rfl)]
            have hp1 : AllOf (A7 w.heap.size g n c aa k8) v W [3, 7, 2] := hp
            clear hp
            simp only [putAll, Act.put, List.setIfInBounds_toArray, List.set_cons_zero, List.set_cons_succ, Nat.reduceAdd] at hKK ⊢
            have e7 : v 7 = .int .i64 ((n : Int) - 1) := hp1.2.1
            obtain ⟨y, e3, y0⟩ := hp1.1
            simp only [e3] at hKK ⊢
            clear e3
            simp only [e7] at hKK ⊢
            clear e7
            clear hp1
            go_simp
            go_at_call 35
            refine (l14Min_walk _ _ _).mono ?_
            rintro e W3 ⟨rfl, rfl⟩
            go_simp
            refine hKK _ _ (grown_reflp _ _) hB ?_
            have y9 : 0 ≤ y := y0
            exact ⟨(min y ((n : Int) - 1)).toNat, by rw [Int.toNat_of_nonneg (by omega)], by omega⟩
          · exact trivial
        intro v W hB hA KK hKK
        rw [if_pos (by rfl)]
        simp only [putAll, Act.put, List.setIfInBounds_toArray, List.set_cons_zero, List.set_cons_succ, Nat.reduceAdd]
        have p0 : (A7 w.heap.size g n c aa k8) 0 (v 0) W := hA 0 (by decide)
        have p1 : (A7 w.heap.size g n c aa k8) 1 (v 1) W := hA 1 (by decide)
        have p2 : (A7 w.heap.size g n c aa k8) 2 (v 2) W := hA 2 (by decide)
        have p3 : (A7 w.heap.size g n c aa k8) 3 (v 3) W := hA 3 (by decide)
        have p4 : (A7 w.heap.size g n c aa k8) 4 (v 4) W := hA 4 (by decide)
        have p5 : (A7 w.heap.size g n c aa k8) 5 (v 5) W := hA 5 (by decide)
        have p6 : (A7 w.heap.size g n c aa k8) 6 (v 6) W := hA 6 (by decide)
        have p7 : (A7 w.heap.size g n c aa k8) 7 (v 7) W := hA 7 (by decide)
        have p8 : (A7 w.heap.size g n c aa k8) 8 (v 8) W := hA 8 (by decide)
        clear hA
        have e0 : v 0 = .int .i64 (k8 : Int) := p0
        have e1 : v 1 = .pointer (some ⟨g, 0, none⟩) := p1
        have e4 : v 4 = .pointer (some ⟨w.heap.size, 2, none⟩) := p4
        have e5 : v 5 = .slice aa n c := p5
        have e6 : v 6 = .int .i64 (n : Int) := p6
        have e7 : v 7 = .int .i64 ((n : Int) - 1) := p7
        obtain ⟨y2, e2, _, _⟩ := p2
        obtain ⟨y3, e3, _⟩ := p3
        obtain ⟨z, e8, hz⟩ := p8
        simp only [e0, e1, e2, e3, e4, e5, e6, e7, e8]
        clear e0 e1 e2 e3 e4 e5 e6 e7 e8 p0 p1 p4 p5 p6 p7
        have HK4 := hide hB
        clear hB
        go_simp
        refine hKK _ _ ?_
        clear hKK KK
        have hk8 : k8 < os.length := by rw [HN.out]; omega
        have hz8 : z < os.length := by rw [HN.out]; exact hz
        obtain ⟨b, off, e1, _, c0, c1, c2, c3, c4, c5⟩ := piece_cells (HA.out W HK4.out.1.2.1) hk8
        obtain ⟨b2, off2, e2, hbl, d0, d1, d2, d3, d4, d5⟩ := piece_cells (HA.out W HK4.out.1.2.1) hz8
        have hcell : aa = some ⟨b, off, none⟩ ∧ b2 = b ∧ off2 = off := by rw [e1] at e2; injection e2 with e2; injection e2 with e2 e3; exact ⟨e1, e2.symm, e3.symm⟩
        obtain ⟨rfl, rfl, rfl⟩ := hcell
        generalize os[k8].f0 = fx at *
        generalize os[z].f1 = tx at *
        clear e1 e2 c1 c2 c3 c4 c5 d0 d2 d3 d4 d5
        clear HK3
        have x2 := HK4.out.2.1.cell 2 _ rfl
        go_upto_region 8 with fail
        have HKD : Hid (SkM w W.drew g len a0 cap0 u x (some ⟨b2, off2, none⟩) n c (.slice bb m k) m zs) := hide (HK4.out.next (Below.refl _ _).drew)
        have hal : Below W.heap.size W (W.alloc (.cells #[.int .i64 0, .int .i64 0] 43)) := (Below.refl _ _).alloc (Nat.le_refl _) _
        have HZB : Hid (HoldV (W.alloc (.cells #[.int .i64 0, .int .i64 0] 43)) W.heap.size #[.int .i64 0, .int .i64 0] 43) := hide (hv_new W _ _)
        have HK5 : Hid (SkM w (W.alloc (.cells #[.int .i64 0, .int .i64 0] 43)) g len a0 cap0 u x (some ⟨b2, off2, none⟩) n c (.slice bb m k) m zs) := hide (HK4.out.next hal)
        have c0a := (hal.cell (p := ⟨b2, off2 + k8 * 6, none⟩) hbl).trans c0
        have d1a := (hal.cell (p := ⟨b2, off2 + z * 6 + 1, none⟩) hbl).trans d1
        have x2a := HK5.out.2.1.cell 2 _ rfl
        have z0 := HZB.out.cell 0 _ rfl; have z1 := HZB.out.cell 1 _ rfl; have zf := HZB.out.frozen
        clear hal HKD
        go_region
        have hq0 : w.heap.size < W.heap.size := HK4.out.2.1.lt
        have hal2 : Below W.heap.size W (W.alloc (.cells #[.int .i64 fx, .int .i64 tx] 43)).drew := ((Below.refl _ _).alloc (Nat.le_refl _) _).drew
        have HK6 := hide (HK4.out.next hal2)
        have HX6 : Hid (HoldV (W.alloc (.cells #[.int .i64 fx, .int .i64 tx] 43)).drew W.heap.size #[.int .i64 fx, .int .i64 tx] 43) := hide (show HoldV (W.alloc (.cells #[.int .i64 fx, .int .i64 tx] 43)) _ _ _ from hv_new W _ _)
        have hrow : (Value.slice bb m k).ownBlock ≠ some W.heap.size := fun e => by have := (ownsAt.lt (ownsAt.of_row HK4.out.2.2) _ e).2; omega
        have HROW := hide hrow
        clear hal2 hrow HK4 HK5 HZB c0 c0a d1 d1a x2 x2a z0 z1 zf hbl HA
        go_wp2_with fail
        generalize (W.alloc (.cells #[.int .i64 fx, .int .i64 tx] 43)).drew = V6 at *
        generalize W.heap.size = q at *
        refine (HK6.out.1.draw 8 (by omega) (by omega)).mono ?_
        rintro e V7 ⟨y8, rfl, py8, qy8, hg7, hs7⟩
        have HX7 := hide (hv_gr HX6.out hg7 (by omega))
        have HK7 := hide (HK6.out.step hg7 hs7)
        clear hg7 hs7 HX6 HK6
        by_cases h8 : y8 = 0
        · subst h8
          have j0 := HX7.out.cell 0 (.int .i64 fx) rfl; have j1 := HX7.out.cell 1 (.int .i64 tx) rfl; have jf := HX7.out.frozen
          have hg8 : V7.grownBy (V7.setCell ⟨q, 0, none⟩ (.int .i64 (wrap64 (fx + 1)))) (some q) := gr_set (grown_reflp _ _) 0 _
          have HX8 := hide (hv_set HX7.out 0 (.int .i64 (wrap64 (fx + 1))))
          have HK8 := hide (HK7.out.put hg8 (by omega) HROW.out)
          simp only [List.setIfInBounds_toArray, List.set_cons_zero] at HX8
          clear hg8 HX7 HK7
          go_wp2_with fail
          clear j0 j1 jf
          generalize V7.setCell ⟨q, 0, none⟩ (.int .i64 (wrap64 (fx + 1))) = V8 at *
          generalize wrap64 (fx + 1) = fxy at *
          refine (HK8.out.1.draw 12 (by omega) (by omega)).mono ?_
          rintro e V9 ⟨y12, rfl, py12, qy12, hg9, hs9⟩
          have HX9 := hide (hv_gr HX8.out hg9 (by omega))
          have HK9 := hide (HK8.out.step hg9 hs9)
          clear hg9 hs9 HX8 HK8
          by_cases h12 : y12 = 0
          · subst h12
            have j0 := HX9.out.cell 0 (.int .i64 fxy) rfl; have j1 := HX9.out.cell 1 (.int .i64 tx) rfl; have jf := HX9.out.frozen
            have hg10 : V9.grownBy (V9.setCell ⟨q, 1, none⟩ (.int .i64 (wrap64 (tx + 1)))) (some q) := gr_set (grown_reflp _ _) 1 _
            have HX10 := hide (hv_set HX9.out 1 (.int .i64 (wrap64 (tx + 1))))
            have HK10 := hide (HK9.out.put hg10 (by omega) HROW.out)
            simp only [List.setIfInBounds_toArray, List.set_cons_zero, List.set_cons_succ] at HX10
            clear hg10 HX9 HK9
            go_upto_region 13 with fail
            clear j0 j1 jf
            generalize V9.setCell ⟨q, 1, none⟩ (.int .i64 (wrap64 (tx + 1))) = V10 at *
            generalize wrap64 (tx + 1) = txy at *
            have j0 := HX10.out.cell 0 (.int .i64 fxy) rfl; have j1 := HX10.out.cell 1 (.int .i64 txy) rfl
            have hal : Below V10.heap.size V10 (V10.alloc (.cells #[.int .i64 fxy, .int .i64 txy] 43)) := (Below.refl _ _).alloc (Nat.le_refl _) _
            have HY : Hid (HoldV (V10.alloc (.cells #[.int .i64 fxy, .int .i64 txy] 43)) V10.heap.size #[.int .i64 fxy, .int .i64 txy] 43) := hide (hv_new V10 _ _)
            have HKL := hide (HK10.out.next hal)
            have hvl : w.heap.size < V10.heap.size := HK10.out.2.1.lt
            have hsz : (V10.alloc (.cells #[.int .i64 fxy, .int .i64 txy] 43)).heap.size = V10.heap.size + 1 := World.size_alloc _ _
            clear hal HK10 HX10
            go_wp2_with (at_builtin; refine (wpList_append_lies _ rfl _ _ 44 rfl (w.heap.size + 1) 43 ip _ 2 16 Try.underlying44 HI.out HI0.out HI1.out HI2.out rfl (by decide) (.slice bb m k) m (ival zs) rfl HKL.out.2.2 ⟨V10.heap.size, 0, none⟩ 1 1 (ival [fxy, txy]) rfl rfl (st_cells HY.out) (ival_one2 _ _) (by omega) (by unfold maxLen; omega) (by omega) (by omega) _ rfl ?_))
            intro gt nt w3 hown hgrow _ _
            have hh : w3.ownsRow (w.heap.size + 1) 43 2 (.slice (some ⟨gt, 0, none⟩) (m + 1) nt) (m + 1) (ival (zs ++ [fxy, txy])) := by rw [ival_app]; exact hown
            have HKM := hide (HKL.out.app hgrow hh)
            clear hown hgrow hh HKL HY hsz j0 j1
            go_wp2_with fail
            exact ⟨⟨m + 1, _, _, _, by go_num, by omega, rfl, HKM⟩, by simp [intOf]; omega⟩
          · go_upto_region 13 with fail
            have j0 := HX9.out.cell 0 (.int .i64 fxy) rfl; have j1 := HX9.out.cell 1 (.int .i64 tx) rfl
            have hal : Below V9.heap.size V9 (V9.alloc (.cells #[.int .i64 fxy, .int .i64 tx] 43)) := (Below.refl _ _).alloc (Nat.le_refl _) _
            have HY : Hid (HoldV (V9.alloc (.cells #[.int .i64 fxy, .int .i64 tx] 43)) V9.heap.size #[.int .i64 fxy, .int .i64 tx] 43) := hide (hv_new V9 _ _)
            have HKL := hide (HK9.out.next hal)
            have hvl : w.heap.size < V9.heap.size := HK9.out.2.1.lt
            have hsz : (V9.alloc (.cells #[.int .i64 fxy, .int .i64 tx] 43)).heap.size = V9.heap.size + 1 := World.size_alloc _ _
            clear hal HK9 HX9
            go_wp2_with (at_builtin; refine (wpList_append_lies _ rfl _ _ 44 rfl (w.heap.size + 1) 43 ip _ 2 16 Try.underlying44 HI.out HI0.out HI1.out HI2.out rfl (by decide) (.slice bb m k) m (ival zs) rfl HKL.out.2.2 ⟨V9.heap.size, 0, none⟩ 1 1 (ival [fxy, tx]) rfl rfl (st_cells HY.out) (ival_one2 _ _) (by omega) (by unfold maxLen; omega) (by omega) (by omega) _ rfl ?_))
            intro gt nt w3 hown hgrow _ _
            have hh : w3.ownsRow (w.heap.size + 1) 43 2 (.slice (some ⟨gt, 0, none⟩) (m + 1) nt) (m + 1) (ival (zs ++ [fxy, tx])) := by rw [ival_app]; exact hown
            have HKM := hide (HKL.out.app hgrow hh)
            clear hown hgrow hh HKL HY hsz j0 j1
            go_wp2_with fail
            exact ⟨⟨m + 1, _, _, _, by go_num, by omega, rfl, HKM⟩, by simp [intOf]; omega⟩
        · go_wp2_with fail
          refine (HK7.out.1.draw 12 (by omega) (by omega)).mono ?_
          rintro e V8 ⟨y12, rfl, py12, qy12, hg8, hs8⟩
          have HX8 := hide (hv_gr HX7.out hg8 (by omega))
          have HK8 := hide (HK7.out.step hg8 hs8)
          clear hg8 hs8 HX7 HK7
          by_cases h12 : y12 = 0
          · subst h12
            have j0 := HX8.out.cell 0 (.int .i64 fx) rfl; have j1 := HX8.out.cell 1 (.int .i64 tx) rfl; have jf := HX8.out.frozen
            have hg9 : V8.grownBy (V8.setCell ⟨q, 1, none⟩ (.int .i64 (wrap64 (tx + 1)))) (some q) := gr_set (grown_reflp _ _) 1 _
            have HX9 := hide (hv_set HX8.out 1 (.int .i64 (wrap64 (tx + 1))))
            have HK9 := hide (HK8.out.put hg9 (by omega) HROW.out)
            simp only [List.setIfInBounds_toArray, List.set_cons_zero, List.set_cons_succ] at HX9
            clear hg9 HX8 HK8
            go_upto_region 13 with fail
            clear j0 j1 jf
            generalize V8.setCell ⟨q, 1, none⟩ (.int .i64 (wrap64 (tx + 1))) = V9 at *
            generalize wrap64 (tx + 1) = txy at *
            have j0 := HX9.out.cell 0 (.int .i64 fx) rfl; have j1 := HX9.out.cell 1 (.int .i64 txy) rfl
            have hal : Below V9.heap.size V9 (V9.alloc (.cells #[.int .i64 fx, .int .i64 txy] 43)) := (Below.refl _ _).alloc (Nat.le_refl _) _
            have HY : Hid (HoldV (V9.alloc (.cells #[.int .i64 fx, .int .i64 txy] 43)) V9.heap.size #[.int .i64 fx, .int .i64 txy] 43) := hide (hv_new V9 _ _)
            have HKL := hide (HK9.out.next hal)
            have hvl : w.heap.size < V9.heap.size := HK9.out.2.1.lt
            have hsz : (V9.alloc (.cells #[.int .i64 fx, .int .i64 txy] 43)).heap.size = V9.heap.size + 1 := World.size_alloc _ _
            clear hal HK9 HX9
            go_wp2_with (at_builtin; refine (wpList_append_lies _ rfl _ _ 44 rfl (w.heap.size + 1) 43 ip _ 2 16 Try.underlying44 HI.out HI0.out HI1.out HI2.out rfl (by decide) (.slice bb m k) m (ival zs) rfl HKL.out.2.2 ⟨V9.heap.size, 0, none⟩ 1 1 (ival [fx, txy]) rfl rfl (st_cells HY.out) (ival_one2 _ _) (by omega) (by unfold maxLen; omega) (by omega) (by omega) _ rfl ?_))
            intro gt nt w3 hown hgrow _ _
            have hh : w3.ownsRow (w.heap.size + 1) 43 2 (.slice (some ⟨gt, 0, none⟩) (m + 1) nt) (m + 1) (ival (zs ++ [fx, txy])) := by rw [ival_app]; exact hown
            have HKM := hide (HKL.out.app hgrow hh)
            clear hown hgrow hh HKL HY hsz j0 j1
            go_wp2_with fail
            exact ⟨⟨m + 1, _, _, _, by go_num, by omega, rfl, HKM⟩, by simp [intOf]; omega⟩
          · go_upto_region 13 with fail
            have j0 := HX8.out.cell 0 (.int .i64 fx) rfl; have j1 := HX8.out.cell 1 (.int .i64 tx) rfl
            have hal : Below V8.heap.size V8 (V8.alloc (.cells #[.int .i64 fx, .int .i64 tx] 43)) := (Below.refl _ _).alloc (Nat.le_refl _) _
            have HY : Hid (HoldV (V8.alloc (.cells #[.int .i64 fx, .int .i64 tx] 43)) V8.heap.size #[.int .i64 fx, .int .i64 tx] 43) := hide (hv_new V8 _ _)
            have HKL := hide (HK8.out.next hal)
            have hvl : w.heap.size < V8.heap.size := HK8.out.2.1.lt
            have hsz : (V8.alloc (.cells #[.int .i64 fx, .int .i64 tx] 43)).heap.size = V8.heap.size + 1 := World.size_alloc _ _
            clear hal HK8 HX8
            go_wp2_with (at_builtin; refine (wpList_append_lies _ rfl _ _ 44 rfl (w.heap.size + 1) 43 ip _ 2 16 Try.underlying44 HI.out HI0.out HI1.out HI2.out rfl (by decide) (.slice bb m k) m (ival zs) rfl HKL.out.2.2 ⟨V8.heap.size, 0, none⟩ 1 1 (ival [fx, tx]) rfl rfl (st_cells HY.out) (ival_one2 _ _) (by omega) (by unfold maxLen; omega) (by omega) (by omega) _ rfl ?_))
            intro gt nt w3 hown hgrow _ _
            have hh : w3.ownsRow (w.heap.size + 1) 43 2 (.slice (some ⟨gt, 0, none⟩) (m + 1) nt) (m + 1) (ival (zs ++ [fx, tx])) := by rw [ival_app]; exact hown
            have HKM := hide (HKL.out.app hgrow hh)
            clear hown hgrow hh HKL HY hsz j0 j1
            go_wp2_with fail
            exact ⟨⟨m + 1, _, _, _, by go_num, by omega, rfl, HKM⟩, by simp [intOf]; omega⟩
      · obtain rfl : n = 0 := by omega
        go_wp2_with fail
        exact bodyPost_ret (v := .slice bb m k) (by simp [results, Try.results56, go_sem]) rfl ⟨bb, m, k, zs, rfl, by omega, HK2.out.2.2, HK2.out.1.2.1, HK2.out.1.2.2⟩
    · go_wp2_with fail
      exact bodyPost_ret (v := .slice bb m k) (by simp [results, Try.results56, go_sem]) rfl ⟨bb, m, k, zs, rfl, by omega, HK2.out.2.2, HK2.out.1.2.1, HK2.out.1.2.2⟩
set_option maxRecDepth 100000
theorem bOK_lose {u x : Int} {os : List PieceM} (h : bOK u x os) : bOK u x (loseL os) := ⟨h.1, h.2.1, by rw [opLose_len]; exact h.2.2.1, loseL_chk os u x h.2.2.2⟩
theorem bOK_first {u x : Int} {os : List PieceM} (h : bOK u x os) : bOK u x (firstL os) := ⟨h.1, h.2.1, by rw [opFirst_len]; exact h.2.2.1, firstL_chk os u x h.2.2.2⟩
theorem chk_lost : ∀ (os : List PieceM) (u x : Int), chk u os = some x → chk u (os.map lostP) = some x
  | [], _, _, h => h
  | o :: r, u, x, h => by
    by_cases hh : o.f0 = u ∧ vp o
    · rw [chk_cons hh.1 hh.2] at h
      rw [List.map_cons, chk_cons (o := lostP o) hh.1 (vp_lost hh.2)]
      exact chk_lost r _ _ h
    · rw [chk_ill hh] at h; cases h
theorem bOK_time {u x : Int} {os : List PieceM} (h : bOK u x os) : bOK u x (os.map lostP) := ⟨h.1, h.2.1, by rw [List.length_map]; exact h.2.2.1, chk_lost os u x h.2.2.2⟩
theorem bOK_again {u x t : Int} {a b : List PieceM} {q : PieceM} (h : bOK u x (a ++ q :: b)) (ht : 0 ≤ t ∧ t ≤ 1000000000) : bOK u x (a ++ againP t q :: b) :=
  ⟨h.1, h.2.1, by have h1 := h.2.2.1; simp only [List.length_append, List.length_cons] at h1 ⊢; exact h1, chk_one h.2.2.2 rfl rfl (fun hv => ⟨hv.1, ht, by have := hv.2.2.1; show 1 ≤ min (q.f3 + 1) 1000000 ∧ min (q.f3 + 1) 1000000 ≤ 1000000; omega, fun hc => by cases hc.2⟩)⟩
theorem bOK_send {u x k t : Int} {os : List PieceM} (h : bOK u x os) (hs : sdOK k t) (hf : ¬ sdFull x k os) : bOK u (x + k) (os ++ [newP x k t]) := by
  have h1 : os.length ≠ 4096 := fun e => hf (.inl e)
  have h2 : ¬ 1099511627776 < x + k := fun e => hf (.inr e)
  have h3 := h.2.2.1
  refine ⟨h.1, by omega, by simp only [List.length_append, List.length_cons, List.length_nil]; omega, ?_⟩
  exact chk_snoc (p := newP x k t) os u x h.2.2.2 rfl ⟨by show x < x + k; have := hs.1; omega, hs.2, by show (1 : Int) ≤ 1 ∧ (1 : Int) ≤ 1000000; omega, fun hc => by cases hc.1⟩
theorem bOK_ack {u x ack : Int} {os : List PieceM} (zs : List Int) (h : bOK u x os) (hs : u ≤ ack ∧ ack ≤ x) : bOK ack x (ackL ack x zs os) :=
  ⟨by have := h.1; omega, h.2.1, Nat.le_trans (ackL_len ack x zs os) h.2.2.1, ackL_chk zs hs.2 os u h.2.2.2 hs.1⟩
theorem bOK_split {u x k : Int} {os : List PieceM} (h : bOK u x os) (hk : 1 ≤ k) (hf : ¬ 4096 < cntS k os) : bOK u x (splitL k os) :=
  ⟨h.1, h.2.1, by have h1 := split_len hk os (fun o ho => (bOK_piece h ho).2.1); omega, splitL_chk hk os u x h.2.2.2⟩
theorem bOK_nil : bOK 0 0 [] := ⟨by omega, by omega, by simp, rfl⟩
/-- A valid board in new memory. -/
def NB (H : Nat) (W : World) (val : Value) : Prop := ∃ (u x : Int) (a : Option Addr) (c : Nat) (os : List PieceM), val = .agg #[.int .i64 u, .int .i64 x, .slice a os.length c] ∧ OwnP W H (.slice a os.length c) os ∧ bOK u x os
theorem NB.of {H : Nat} {W : World} {u x : Int} {v : Value} {os : List PieceM} (h : OwnP W H v os) (hok : bOK u x os) : NB H W (.agg #[.int .i64 u, .int .i64 x, v]) := by
  obtain ⟨a, c, rfl, _⟩ := arrP_own h
  exact ⟨u, x, a, c, os, rfl, h, hok⟩
theorem NB.mono {H K : Nat} {W : World} {val : Value} (h : NB H W val) (hK : K ≤ H) : NB K W val := by
  obtain ⟨u, x, a, c, os, e, h1, h2⟩ := h
  exact ⟨u, x, a, c, os, e, ownP_mono h1 hK, h2⟩
theorem anyLose {u x : Int} {os : List PieceM} {W : World} {B : Nat} {v : Value} (hok : bOK u x os) (ho : OwnP W B v os) :
    Calls Try.prog 57 #[.agg #[.int .i64 u, .int .i64 x, v]] W fun e W' => ∃ (b : Value) (k c : Int), e = .returned (.tuple #[b, .int .i64 k, .int .i64 c]) ∧ NB W.heap.size W' b ∧ Below W.heap.size W W' := by
  obtain ⟨a, c, rfl, ha, hc, _⟩ := arrP_own ho
  refine ((specLose_yes hok) a _ c W rfl ha hc (by have := hok.2.2.1; omega) trivial).mono ?_
  rintro e w' ⟨v, rfl, h1, h2⟩
  exact ⟨_, _, _, rfl, NB.of h1 (bOK_lose hok), h2⟩
theorem anyFirst {u x : Int} {os : List PieceM} {W : World} {B : Nat} {v : Value} (hok : bOK u x os) (ho : OwnP W B v os) :
    Calls Try.prog 58 #[.agg #[.int .i64 u, .int .i64 x, v]] W fun e W' => ∃ (b : Value) (k c : Int), e = .returned (.tuple #[b, .int .i64 k, .int .i64 c]) ∧ NB W.heap.size W' b ∧ Below W.heap.size W W' := by
  obtain ⟨a, c, rfl, ha, hc, _⟩ := arrP_own ho
  refine ((specFirst_yes hok) a _ c W rfl ha hc (by have := hok.2.2.1; omega) trivial).mono ?_
  rintro e w' ⟨v, rfl, h1, h2⟩
  exact ⟨_, _, _, rfl, NB.of h1 (bOK_first hok), h2⟩
theorem anyTimeout {u x : Int} {os : List PieceM} {W : World} {B : Nat} {v : Value} (hok : bOK u x os) (ho : OwnP W B v os) :
    Calls Try.prog 59 #[.agg #[.int .i64 u, .int .i64 x, v]] W fun e W' => ∃ (b : Value) (c : Int), e = .returned (.tuple #[b, .int .i64 c]) ∧ NB W.heap.size W' b ∧ Below W.heap.size W W' := by
  obtain ⟨a, c, rfl, ha, hc, _⟩ := arrP_own ho
  refine ((specTimeout_yes hok) a _ c W rfl ha hc (by have := hok.2.2.1; omega) trivial).mono ?_
  rintro e w' ⟨v, rfl, h1, h2⟩
  exact ⟨_, _, rfl, NB.of h1 (bOK_time hok), h2⟩
theorem anySend {u x : Int} {os : List PieceM} {W : World} {B : Nat} {v : Value} (k t : Int) (hok : bOK u x os) (ho : OwnP W B v os) :
    Calls Try.prog 10 #[.agg #[.int .i64 u, .int .i64 x, v], .int .i64 k, .int .i64 t] W fun e W' => ∃ (b : Value) (c : Int), e = .returned (.tuple #[b, .int .i64 c]) ∧ NB W.heap.size W' b ∧ Below W.heap.size W W' := by
  obtain ⟨a, c, rfl, ha, hc, _⟩ := arrP_own ho
  by_cases hs : sdOK k t
  · by_cases hf : sdFull x k os
    · refine ((specSend_full k t hok hs hf) a _ c W rfl ha hc (by have := hok.2.2.1; omega) trivial).mono ?_
      rintro e w' ⟨v, rfl, h1, h2⟩
      exact ⟨_, _, rfl, NB.of h1 bOK_nil, h2⟩
    · refine ((specSend_yes k t hok hs hf) a _ c W rfl ha hc (by have := hok.2.2.1; omega) trivial).mono ?_
      rintro e w' ⟨v, rfl, h1, h2⟩
      exact ⟨_, _, rfl, NB.of h1 (bOK_send hok hs hf), h2⟩
  · refine ((specSend_form k t hok hs) a _ c W rfl ha hc (by have := hok.2.2.1; omega) trivial).mono ?_
    rintro e w' ⟨v, rfl, h1, h2⟩
    exact ⟨_, _, rfl, NB.of h1 bOK_nil, h2⟩
theorem anyAgain {u x : Int} {os : List PieceM} {W : World} {B : Nat} {v : Value} (t : Int) (hok : bOK u x os) (ho : OwnP W B v os) (ht : 0 ≤ t ∧ t ≤ 1000000000) :
    Calls Try.prog 60 #[.agg #[.int .i64 u, .int .i64 x, v], .int .i64 t] W fun e W' => ∃ (b : Value) (y0 y1 y2 y3 : Int) (y4 y5 : Bool) (c : Int), e = .returned (.tuple #[b, .agg #[.int .i64 y0, .int .i64 y1, .int .i64 y2, .int .i64 y3, .bool y4, .bool y5], .int .i64 c]) ∧ NB W.heap.size W' b ∧ Below W.heap.size W W' := by
  obtain ⟨a, c, rfl, ha, hc, _⟩ := arrP_own ho
  rcases again_split t os with ⟨_, hno⟩ | ⟨A0, q, B0, rfl, h5, hA, _⟩
  · refine ((specAgain_none t hok ht hno) a _ c W rfl ha hc (by have := hok.2.2.1; omega) trivial).mono ?_
    rintro e w' ⟨v, rfl, h1, h2⟩
    exact ⟨_, _, _, _, _, _, _, _, rfl, NB.of h1 bOK_nil, h2⟩
  · refine ((specAgain_yes t hok ht A0 B0 q rfl h5 hA) a _ c W rfl ha hc (by have := hok.2.2.1; omega) trivial).mono ?_
    rintro e w' ⟨v, rfl, h1, h2⟩
    exact ⟨_, _, _, _, _, _, _, _, rfl, NB.of h1 (bOK_again hok ht), h2⟩
theorem row2_mono {w : World} {B C e K n : Nat} {v : Value} {xs : List Value} (h : w.ownsRow B e K v n xs) (hC : C ≤ B) : w.ownsRow C e K v n xs := by
  refine ⟨h.1, ?_⟩
  rcases h.2 with h0 | ⟨b, cap, cur, hv, hB, rest⟩
  · exact .inl h0
  · exact .inr ⟨b, cap, cur, hv, by omega, rest⟩
theorem arrI_row {w : World} {B m k : Nat} {bb : Option Addr} {zs : List Int} (h : w.ownsRow B 43 2 (.slice bb m k) m (ival zs)) : ArrI w bb zs ∧ m ≤ k ∧ zs.length = m * 2 := by
  obtain ⟨a, c, e, hd⟩ := ownSt_holds (ownsAt.of_row h)
  injection e with e1 e2 e3
  subst e1 e3
  obtain ⟨h1, h2, _, h4⟩ := stD_read hd
  exact ⟨h1, h4, h2⟩
theorem anyAck {u x : Int} {os : List PieceM} {W : World} {B m k C : Nat} {v : Value} {bb : Option Addr} {zs : List Int} (ack : Int) (hok : bOK u x os) (ho : OwnP W B v os) (hr : W.ownsRow C 43 2 (.slice bb m k) m (ival zs)) (hm : m ≤ 3) :
    Calls Try.prog 55 #[.agg #[.int .i64 u, .int .i64 x, v], .int .i64 ack, .slice bb m k] W fun e W' => ∃ (b : Value) (y0 y1 y2 c : Int), e = .returned (.tuple #[b, .agg #[.int .i64 y0, .int .i64 y1, .int .i64 y2], .int .i64 c]) ∧ NB W.heap.size W' b ∧ Below W.heap.size W W' := by
  obtain ⟨a, c, rfl, ha, hc, _⟩ := arrP_own ho
  obtain ⟨h1, h2, h3⟩ := arrI_row hr
  by_cases hs : (u ≤ ack ∧ ack ≤ x) ∧ zs.length ≤ 6
  · refine ((specAck_yes ack zs hok hs.1 hs.2) a _ c bb m k W rfl ha hc (by have := hok.2.2.1; omega) h3 h1 h2 (by omega) trivial).mono ?_
    rintro e w' ⟨v, rfl, g1, g2⟩
    exact ⟨_, _, _, _, _, rfl, NB.of g1 (bOK_ack zs hok hs.1), g2⟩
  · refine ((specAck_form ack zs hok hs) a _ c bb m k W rfl ha hc (by have := hok.2.2.1; omega) h3 h1 h2 (by omega) trivial).mono ?_
    rintro e w' ⟨v, rfl, g1, g2⟩
    exact ⟨_, _, _, _, _, rfl, NB.of g1 bOK_nil, g2⟩
set_option maxHeartbeats 1000000 in
theorem l01Next_zero (g : Nat) (n : Int) (w : World) (hn : ¬ 0 < n) : Calls Try.prog 54 #[.pointer (some ⟨g, 0, none⟩), .int .i64 n] w fun e w' => e = .returned (.int .i64 0) ∧ w' = w := by
  go_enter Try.func54, Try.ntmps54
  go_wp2_with fail
  go_ret
  exact ⟨rfl, rfl⟩
theorem DS.drawAny {w0 W : World} {g len cap : Nat} {a : Option Addr} (h : DS w0 W g len a cap) (n : Int) (hn1 : n ≤ 9223372036854775807) :
    Calls Try.prog 54 #[.pointer (some ⟨g, 0, none⟩), .int .i64 n] W fun e W' => ∃ x : Int, e = .returned (.int .i64 x) ∧ W.grownBy W' (some g) ∧ SrcA W' g 54 len a cap := by
  by_cases hn : 0 < n
  · refine (h.draw n hn hn1).mono ?_
    rintro e W' ⟨x, rfl, _, _, hg, hs⟩
    exact ⟨x, rfl, hg, hs⟩
  · refine (l01Next_zero g n W hn).mono ?_
    rintro e W' ⟨rfl, rfl⟩
    exact ⟨0, rfl, grown_reflp _ _, h.2.2⟩
set_option maxRecDepth 100000
/-- l15Draw under way: the answer's box, the board in its box p. -/
def DrM (w W : World) (g len : Nat) (a0 : Option Addr) (cap0 p : Nat) (u x : Int) (a : Option Addr) (c : Nat) (os : List PieceM) : Prop :=
  DS w W g len a0 cap0 ∧ HoldV W w.heap.size #[.int .i64 0, .int .i64 0, .slice none 0 0] 29 ∧ BdB W p u x (.slice a os.length c) os
theorem DrM.next {w W W' : World} {g len cap0 p c : Nat} {a0 a : Option Addr} {u x : Int} {os : List PieceM} (h : DrM w W g len a0 cap0 p u x a c os) (hb : Below W.heap.size W W') : DrM w W' g len a0 cap0 p u x a c os := ⟨h.1.next hb, h.2.1.next hb, h.2.2.next hb⟩
theorem DrM.step {w W W' : World} {g len cap0 p c : Nat} {a0 a : Option Addr} {u x : Int} {os : List PieceM} (h : DrM w W g len a0 cap0 p u x a c os) (hp : w.heap.size < p) (hg : W.grownBy W' (some g)) (hs : SrcA W' g 54 len a0 cap0) : DrM w W' g len a0 cap0 p u x a c os :=
  ⟨h.1.step hg hs, hv_gr h.2.1 hg (by have := h.1.lt; omega), h.2.2.gr hg (by have := h.1.lt; omega)⟩
theorem DrM.put {w W : World} {g len cap0 p c H c' : Nat} {a0 a a' : Option Addr} {u x u' x' : Int} {os os' : List PieceM} (h : DrM w W g len a0 cap0 p u x a c os) (hp : w.heap.size < p) (ho : OwnP W H (.slice a' os'.length c') os') (hH : p < H) :
    DrM w (((W.setCell ⟨p, 0, none⟩ (.int .i64 u')).setCell ⟨p, 1, none⟩ (.int .i64 x')).setCell ⟨p, 2, none⟩ (.slice a' os'.length c')) g len a0 cap0 p u' x' a' c' os' :=
  ⟨h.1.put (grown3 W p _ _ _) (by omega), hv_gr h.2.1 (grown3 W p _ _ _) (by omega), h.2.2.put ho hH⟩
/-- What l15Draw leaves. -/
def DrP (w : World) (g len : Nat) (a0 : Option Addr) (cap0 : Nat) (e : Ending) (w' : World) : Prop := ∃ b : Value, e = .returned b ∧ NB w.heap.size w' b ∧ w.grownBy w' (some g) ∧ SrcA w' g 54 len a0 cap0
/-- A board in its box, whichever, beside the source. -/
def BdX (w W : World) (g len : Nat) (a0 : Option Addr) (cap0 p : Nat) : Prop := ∃ (u x : Int) (a : Option Addr) (c : Nat) (os : List PieceM), bOK u x os ∧ DrM w W g len a0 cap0 p u x a c os
theorem only_g {g p : Nat} {W W' : World} (h : W.grownBy W' (some g)) : Only [g, p] W W' := (Only.of_some h).mono (by simp)
theorem only_p {g p : Nat} {W W' : World} (h : W.grownBy W' (some p)) : Only [g, p] W W' := (Only.of_some h).mono (by simp)
theorem owns_only {g p B e K n : Nat} {W W' : World} {v : Value} {xs : List Value} (h : ownsAt W B e K v n xs) (hg : Only [g, p] W W') (h1 : g < B) (h2 : p < B) : ownsAt W' B e K v n xs := row_only h hg (fun b hb => by have := (h.lt b hb).1; simp; omega)
theorem NB.only {H g p : Nat} {W W' : World} {val : Value} (h : NB H W val) (hg : Only [g, p] W W') (h1 : g < H) (h2 : p < H) : NB H W' val := by
  obtain ⟨u, x, a, c, os, e, ho, hok⟩ := h
  exact ⟨u, x, a, c, os, e, owns_only ho hg h1 h2, hok⟩
theorem row2_only {g p B e K n : Nat} {W W' : World} {v : Value} {xs : List Value} (h : W.ownsRow B e K v n xs) (hg : Only [g, p] W W') (h1 : g < B) (h2 : p < B) : W'.ownsRow B e K v n xs := by
  refine ⟨h.1, ?_⟩
  rcases h.2 with h0 | ⟨b, cap, cur, hv, hb, hc, rest⟩
  · exact .inl h0
  · exact .inr ⟨b, cap, cur, hv, hb, (hg.block b (Array.getElem?_eq_some_iff.1 hc).1 (by simp; omega)).trans hc, rest⟩
theorem EachOps.one1 {P : Program} {ops : Array Oper} {Q : Exit → Act → World → Prop} {R : World → World → Prop} {B : World → Prop} {A : Nat → Value → World → Prop} {a : Act} {i : Nat} {o : Oper} {r : List Oper} (h : ∀ (v : Nat → Value) (w : World), B w → AllOf A v w (predsOf o) → ∀ K : Act → World → Prop, Shut (∀ u w', R w w' → B w' → A i u w' → K ((putAll v 0 ops.toList a).put o.dst u) w') →
    if Region.wanted o (yielded ops (putAll v 0 ops.toList a).tmps) = true then Oper.wp P o (putAll v 0 ops.toList a) w K Q else K ((putAll v 0 ops.toList a).put o.dst undef) w) (hr : EachOps P ops Q R B A a (i + 1) r) : EachOps P ops Q R B A a i (o :: r) :=
  ⟨fun v w hB hp K hK => h v w hB hp K hK, hr⟩
def A8d (p g : Nat) : Nat → Value → World → Prop
  | 0, v, W => NB (p + 1) W v
  | 1, v, _ => v = .pointer (some ⟨g, 0, none⟩)
  | 2, v, _ => ∃ y : Int, v = .int .i64 y
  | 3, v, _ => ∃ y : Int, v = .int .i64 y
  | 4, v, _ => ∃ y : Int, v = .int .i64 y
  | 5, v, _ => ∃ y : Int, v = .int .i64 y
  | 6, v, W => ∃ (b : Value) (k : Int), v = .tuple #[b, .int .i64 k] ∧ NB (p + 1) W b
  | 7, v, W => ∃ (b : Value) (k : Int), v = .tuple #[b, .int .i64 k] ∧ NB (p + 1) W b
  | 8, v, W => NB (p + 1) W v
  | 9, v, _ => ∃ y : Int, v = .int .i64 y
  | _, _, _ => True
theorem A8d_kept {p g : Nat} (hgp : g < p) : ∀ (i : Nat) (v : Value) (W W' : World), Only [g, p] W W' → A8d p g i v W → A8d p g i v W' := by
  intro i v W W' hg h
  unfold A8d at h ⊢
  split at h
  all_goals first
    | exact h
    | exact h.only hg (by omega) (by omega)
    | (obtain ⟨b, k, e, hh⟩ := h; exact ⟨b, k, e, hh.only hg (by omega) (by omega)⟩)
    | (obtain ⟨b, y0, y1, y2, k, e, hh⟩ := h; exact ⟨b, y0, y1, y2, k, e, hh.only hg (by omega) (by omega)⟩)
    | (obtain ⟨bb, m, k, zs, e, hm, hh⟩ := h; exact ⟨bb, m, k, zs, e, hm, row2_only hh hg (by omega) (by omega)⟩)
def A12d (p g : Nat) : Nat → Value → World → Prop
  | 0, v, W => NB (p + 1) W v
  | 1, v, _ => v = .pointer (some ⟨p, 0, none⟩)
  | 2, v, _ => ∃ y : Int, v = .int .i64 y
  | 3, v, _ => v = .pointer (some ⟨g, 0, none⟩)
  | 4, v, W => NB (p + 1) W v
  | 5, v, W => ∃ (bb : Option Addr) (m k : Nat) (zs : List Int), v = .slice bb m k ∧ m ≤ 3 ∧ W.ownsRow (p + 1) 43 2 (.slice bb m k) m (ival zs)
  | 6, v, W => ∃ (b : Value) (y0 y1 y2 k : Int), v = .tuple #[b, .agg #[.int .i64 y0, .int .i64 y1, .int .i64 y2], .int .i64 k] ∧ NB (p + 1) W b
  | 7, v, W => ∃ (b : Value) (y0 y1 y2 k : Int), v = .tuple #[b, .agg #[.int .i64 y0, .int .i64 y1, .int .i64 y2], .int .i64 k] ∧ NB (p + 1) W b
  | 8, v, W => NB (p + 1) W v
  | 9, v, _ => ∃ y0 y1 y2 : Int, v = .agg #[.int .i64 y0, .int .i64 y1, .int .i64 y2]
  | 10, v, _ => ∃ y : Int, v = .int .i64 y
  | _, _, _ => True
theorem A12d_kept {p g : Nat} (hgp : g < p) : ∀ (i : Nat) (v : Value) (W W' : World), Only [g, p] W W' → A12d p g i v W → A12d p g i v W' := by
  intro i v W W' hg h
  unfold A12d at h ⊢
  split at h
  all_goals first
    | exact h
    | exact h.only hg (by omega) (by omega)
    | (obtain ⟨b, k, e, hh⟩ := h; exact ⟨b, k, e, hh.only hg (by omega) (by omega)⟩)
    | (obtain ⟨b, y0, y1, y2, k, e, hh⟩ := h; exact ⟨b, y0, y1, y2, k, e, hh.only hg (by omega) (by omega)⟩)
    | (obtain ⟨bb, m, k, zs, e, hm, hh⟩ := h; exact ⟨bb, m, k, zs, e, hm, row2_only hh hg (by omega) (by omega)⟩)
def A10d (p g : Nat) : Nat → Value → World → Prop
  | 0, v, W => NB (p + 1) W v
  | 1, v, _ => v = .pointer (some ⟨p, 0, none⟩)
  | 2, v, _ => ∃ y : Int, v = .int .i64 y
  | 3, v, _ => v = .pointer (some ⟨g, 0, none⟩)
  | 4, v, _ => v = .pointer (some ⟨p, 1, none⟩)
  | 5, v, _ => ∃ y : Int, v = .int .i64 y
  | 6, v, _ => v = .pointer (some ⟨p, 0, none⟩)
  | 7, v, _ => ∃ y : Int, v = .int .i64 y
  | 8, v, _ => ∃ y : Int, v = .int .i64 y
  | 9, v, _ => ∃ y : Int, v = .int .i64 y ∧ y ≤ 9223372036854775807
  | 10, v, _ => ∃ y : Int, v = .int .i64 y
  | 11, v, _ => ∃ y : Int, v = .int .i64 y
  | 12, v, _ => v = .pointer (some ⟨g, 0, none⟩)
  | 13, v, W => NB (p + 1) W v
  | 14, v, W => ∃ (bb : Option Addr) (m k : Nat) (zs : List Int), v = .slice bb m k ∧ m ≤ 3 ∧ W.ownsRow (p + 1) 43 2 (.slice bb m k) m (ival zs)
  | 15, v, W => ∃ (b : Value) (y0 y1 y2 k : Int), v = .tuple #[b, .agg #[.int .i64 y0, .int .i64 y1, .int .i64 y2], .int .i64 k] ∧ NB (p + 1) W b
  | 16, v, W => ∃ (b : Value) (y0 y1 y2 k : Int), v = .tuple #[b, .agg #[.int .i64 y0, .int .i64 y1, .int .i64 y2], .int .i64 k] ∧ NB (p + 1) W b
  | 17, v, W => NB (p + 1) W v
  | 18, v, _ => ∃ y0 y1 y2 : Int, v = .agg #[.int .i64 y0, .int .i64 y1, .int .i64 y2]
  | 19, v, _ => ∃ y : Int, v = .int .i64 y
  | _, _, _ => True
theorem A10d_kept {p g : Nat} (hgp : g < p) : ∀ (i : Nat) (v : Value) (W W' : World), Only [g, p] W W' → A10d p g i v W → A10d p g i v W' := by
  intro i v W W' hg h
  unfold A10d at h ⊢
  split at h
  all_goals first
    | exact h
    | exact h.only hg (by omega) (by omega)
    | (obtain ⟨b, k, e, hh⟩ := h; exact ⟨b, k, e, hh.only hg (by omega) (by omega)⟩)
    | (obtain ⟨b, y0, y1, y2, k, e, hh⟩ := h; exact ⟨b, y0, y1, y2, k, e, hh.only hg (by omega) (by omega)⟩)
    | (obtain ⟨bb, m, k, zs, e, hm, hh⟩ := h; exact ⟨bb, m, k, zs, e, hm, row2_only hh hg (by omega) (by omega)⟩)
set_option maxHeartbeats 16000000 in
theorem l15Draw_walk (g len : Nat) (a0 : Option Addr) (cap0 : Nat) (more : Int) (w : World) (hS : Sr0 w g len a0 cap0) (h0 : 0 ≤ more) (h1 : more ≤ 1000000) :
    Calls Try.prog 38 #[.pointer (some ⟨g, 0, none⟩), .int .i64 more] w fun e w' => DrP w g len a0 cap0 e w' := by
  have hgl := hS.lt
  have hal := (Below.refl w.heap.size w).alloc (Nat.le_refl _) (.cells #[.int .i64 0, .int .i64 0, .slice none 0 0] 29)
  have HD0 : Hid (DS w (w.alloc (.cells #[.int .i64 0, .int .i64 0, .slice none 0 0] 29)) g len a0 cap0) := hide ((DS.start hS).next hal)
  have HR0 : Hid (HoldV (w.alloc (.cells #[.int .i64 0, .int .i64 0, .slice none 0 0] 29)) w.heap.size #[.int .i64 0, .int .i64 0, .slice none 0 0] 29) := hide (hv_new w _ _)
  clear hal hS
  go_enter Try.func38, Try.ntmps38
  go_wp2_with fail
  generalize (w.alloc (.cells #[.int .i64 0, .int .i64 0, .slice none 0 0] 29)) = V0 at *
  refine (HD0.out.draw 3 (by omega) (by omega)).mono ?_
  rintro e V1 ⟨uu, rfl, uu0, uu1, hg1, hs1⟩
  have HR1 := hide (hv_gr HR0.out hg1 (by omega))
  have HD1 := hide (HD0.out.step hg1 hs1)
  clear hg1 hs1 HR0 HD0
  have hp0 : w.heap.size < V1.heap.size := HR1.out.lt
  have hal := (Below.refl V1.heap.size V1).alloc (Nat.le_refl _) (.cells #[.int .i64 uu, .int .i64 0, .slice none 0 0] 29)
  have HM2 : Hid (DrM w (V1.alloc (.cells #[.int .i64 uu, .int .i64 0, .slice none 0 0] 29)) g len a0 cap0 V1.heap.size uu 0 none 0 []) := hide ⟨HD1.out.next hal, HR1.out.next hal, hv_new V1 _ _, ownP_nil _ _⟩
  clear hal HR1 HD1
  go_upto_region 2 with fail
  generalize V1.alloc (.cells #[.int .i64 uu, .int .i64 0, .slice none 0 0] 29) = V2 at *
  generalize V1.heap.size = p at *
  have k0 := HM2.out.2.2.1.cell 0 _ rfl; have k1 := HM2.out.2.2.1.cell 1 _ rfl; have kf := HM2.out.2.2.1.frozen
  have hg3 : V2.grownBy (V2.setCell ⟨p, 1, none⟩ (.int .i64 uu)) (some p) := gr_set (grown_reflp _ _) 1 _
  have HM3 : Hid (DrM w (V2.setCell ⟨p, 1, none⟩ (.int .i64 uu)) g len a0 cap0 p uu uu none 0 []) := hide ⟨HM2.out.1.put hg3 (by omega), hv_gr HM2.out.2.1 hg3 (by omega), by have q := hv_set HM2.out.2.2.1 1 (.int .i64 uu); simp only [List.setIfInBounds_toArray, List.set_cons_zero, List.set_cons_succ] at q; exact q, ownP_nil _ _⟩
  clear hg3 HM2
  go_wp2_with fail
  clear k0 k1 kf
  generalize V2.setCell ⟨p, 1, none⟩ (.int .i64 uu) = V3 at *
  refine (HM3.out.1.draw 12 (by omega) (by omega)).mono ?_
  rintro e V4 ⟨y, rfl, y0, y1, hg4, hs4⟩
  have HM4 := hide (HM3.out.step hp0 hg4 hs4)
  clear hg4 hs4 HM3
  have HOK : Hid (bOK uu uu []) := hide (bOK_zero uu uu0 (by omega))
  go_wp2_with fail
  go_loopw [7] (fun t w2 => ∃ (i : Nat) (u x : Int) (a : Option Addr) (c : Nat) (os : List PieceM), t = .int .i64 i ∧ (i : Int) ≤ 4 + y + more ∧ Hid (bOK u x os) ∧ Hid (DrM w w2 g len a0 cap0 p u x a c os)) (fun t _ => 1000100 - (intOf t).toNat)
  case atStart => exact ⟨0, uu, uu, none, 0, [], rfl, by omega, HOK, HM4⟩
  case round =>
    clear HM4 HOK uu1 uu0
    obtain ⟨i, u, x, a, c, os, rfl, hi, HOK, HM⟩ := hrel
    rename World => V5
    by_cases hlt : (i : Int) < 4 + y + more
    · go_wp2_with fail
      refine (HM.out.1.draw 9 (by omega) (by omega)).mono ?_
      rintro e V6 ⟨z, rfl, z0, z1, hg6, hs6⟩
      have HM6 := hide (HM.out.step hp0 hg6 hs6)
      have hgp : g < p := by omega
      clear hg6 hs6 HM
      have hz : z = 0 ∨ z = 1 ∨ z = 2 ∨ z = 3 ∨ z = 4 ∨ z = 5 ∨ (6 ≤ z ∧ z ≤ 8) := by omega
      rcases hz with rfl | rfl | rfl | rfl | rfl | rfl | ⟨hz6, hz8⟩
      · skip
        go_upto_region 10 with fail
        refine wp_region_each (fun W W2 => Only [g, p] W W2) (fun W => BdX w W g len a0 cap0 p) (A10d p g) (by kernel_rfl) (by kernel_rfl) (by kernel_rfl) (A10d_kept hgp) ⟨u, x, a, c, os, HOK.out, HM6.out.next (Below.refl _ _).drew⟩ ?_ ?_
        · clear HM6 HOK
          refine EachOps.one1 ?_ ?_
          · intro v W hB hp KK hKK
            rw [if_pos (by rfl)]
            have hp1 : AllOf (A10d p g) v W [] := hp
            clear hp
            simp only [putAll, Act.put, List.setIfInBounds_toArray, List.set_cons_zero, List.set_cons_succ, Nat.reduceAdd] at hKK ⊢
            obtain ⟨u, x, a, c, os, hok, hM⟩ := hB
            have k0 := hM.2.2.1.cell 0 _ rfl; have k1 := hM.2.2.1.cell 1 _ rfl; have k2 := hM.2.2.1.cell 2 _ rfl; have kf := hM.2.2.1.frozen
            clear hp1
            go_simp
            refine hKK _ _ (Only.refl _ _) ⟨u, x, a, c, os, hok, hM⟩ ?_
            exact ⟨u, x, a, c, os, rfl, hM.2.2.2, hok⟩
          refine EachOps.one1 ?_ ?_
          · intro v W hB hp KK hKK
            rw [if_pos (by rfl)]
            have hp1 : AllOf (A10d p g) v W [] := hp
            clear hp
            simp only [putAll, Act.put, List.setIfInBounds_toArray, List.set_cons_zero, List.set_cons_succ, Nat.reduceAdd] at hKK ⊢
            clear hp1
            go_simp
            refine hKK _ _ (Only.refl _ _) hB ?_
            rfl
          refine EachOps.one1 ?_ ?_
          · intro v W hB hp KK hKK
            rw [if_pos (by rfl)]
            have hp1 : AllOf (A10d p g) v W [1] := hp
            clear hp
            simp only [putAll, Act.put, List.setIfInBounds_toArray, List.set_cons_zero, List.set_cons_succ, Nat.reduceAdd] at hKK ⊢
            have e1 : v 1 = .pointer (some ⟨p, 0, none⟩) := hp1.1
            obtain ⟨u, x, a, c, os, hok, hM⟩ := hB
            have k0 := hM.2.2.1.cell 0 _ rfl; have k1 := hM.2.2.1.cell 1 _ rfl; have k2 := hM.2.2.1.cell 2 _ rfl; have kf := hM.2.2.1.frozen
            simp only [e1] at hKK ⊢
            clear e1
            clear hp1
            go_simp
            refine hKK _ _ (Only.refl _ _) ⟨u, x, a, c, os, hok, hM⟩ ?_
            exact ⟨_, rfl⟩
          refine EachOps.one1 ?_ ?_
          · intro v W hB hp KK hKK
            rw [if_pos (by rfl)]
            have hp1 : AllOf (A10d p g) v W [] := hp
            clear hp
            simp only [putAll, Act.put, List.setIfInBounds_toArray, List.set_cons_zero, List.set_cons_succ, Nat.reduceAdd] at hKK ⊢
            clear hp1
            go_simp
            refine hKK _ _ (Only.refl _ _) hB ?_
            rfl
          refine EachOps.one1 ?_ ?_
          · intro v W hB hp KK hKK
            rw [if_pos (by rfl)]
            have hp1 : AllOf (A10d p g) v W [] := hp
            clear hp
            simp only [putAll, Act.put, List.setIfInBounds_toArray, List.set_cons_zero, List.set_cons_succ, Nat.reduceAdd] at hKK ⊢
            clear hp1
            go_simp
            refine hKK _ _ (Only.refl _ _) hB ?_
            rfl
          refine EachOps.one1 ?_ ?_
          · intro v W hB hp KK hKK
            rw [if_pos (by rfl)]
            have hp1 : AllOf (A10d p g) v W [4] := hp
            clear hp
            simp only [putAll, Act.put, List.setIfInBounds_toArray, List.set_cons_zero, List.set_cons_succ, Nat.reduceAdd] at hKK ⊢
            have e4 : v 4 = .pointer (some ⟨p, 1, none⟩) := hp1.1
            obtain ⟨u, x, a, c, os, hok, hM⟩ := hB
            have k0 := hM.2.2.1.cell 0 _ rfl; have k1 := hM.2.2.1.cell 1 _ rfl; have k2 := hM.2.2.1.cell 2 _ rfl; have kf := hM.2.2.1.frozen
            simp only [e4] at hKK ⊢
            clear e4
            clear hp1
            go_simp
            refine hKK _ _ (Only.refl _ _) ⟨u, x, a, c, os, hok, hM⟩ ?_
            exact ⟨_, rfl⟩
          refine EachOps.one1 ?_ ?_
          · intro v W hB hp KK hKK
            rw [if_pos (by rfl)]
            have hp1 : AllOf (A10d p g) v W [] := hp
            clear hp
            simp only [putAll, Act.put, List.setIfInBounds_toArray, List.set_cons_zero, List.set_cons_succ, Nat.reduceAdd] at hKK ⊢
            clear hp1
            go_simp
            refine hKK _ _ (Only.refl _ _) hB ?_
            rfl
          refine EachOps.one1 ?_ ?_
          · intro v W hB hp KK hKK
            rw [if_pos (by rfl)]
            have hp1 : AllOf (A10d p g) v W [6] := hp
            clear hp
            simp only [putAll, Act.put, List.setIfInBounds_toArray, List.set_cons_zero, List.set_cons_succ, Nat.reduceAdd] at hKK ⊢
            have e6 : v 6 = .pointer (some ⟨p, 0, none⟩) := hp1.1
            obtain ⟨u, x, a, c, os, hok, hM⟩ := hB
            have k0 := hM.2.2.1.cell 0 _ rfl; have k1 := hM.2.2.1.cell 1 _ rfl; have k2 := hM.2.2.1.cell 2 _ rfl; have kf := hM.2.2.1.frozen
            simp only [e6] at hKK ⊢
            clear e6
            clear hp1
            go_simp
            refine hKK _ _ (Only.refl _ _) ⟨u, x, a, c, os, hok, hM⟩ ?_
            exact ⟨_, rfl⟩
          refine EachOps.one1 ?_ ?_
          · intro v W hB hp KK hKK
            rw [if_pos (by rfl)]
            have hp1 : AllOf (A10d p g) v W [5, 7] := hp
            clear hp
            simp only [putAll, Act.put, List.setIfInBounds_toArray, List.set_cons_zero, List.set_cons_succ, Nat.reduceAdd] at hKK ⊢
            obtain ⟨r5, e5⟩ := hp1.1
            obtain ⟨r7, e7⟩ := hp1.2.1
            simp only [e5, e7] at hKK ⊢
            clear e5 e7
            clear hp1
            go_simp
            refine hKK _ _ (Only.refl _ _) hB ?_
            exact ⟨_, rfl⟩
          refine EachOps.one1 ?_ ?_
          · intro v W hB hp KK hKK
            rw [if_pos (by rfl)]
            have hp1 : AllOf (A10d p g) v W [8] := hp
            clear hp
            simp only [putAll, Act.put, List.setIfInBounds_toArray, List.set_cons_zero, List.set_cons_succ, Nat.reduceAdd] at hKK ⊢
            obtain ⟨r8, e8⟩ := hp1.1
            simp only [e8] at hKK ⊢
            clear e8
            clear hp1
            go_simp
            refine hKK _ _ (Only.refl _ _) hB ?_
            exact ⟨_, rfl, by rw [IntKind.wrap_i64]; omega⟩
          refine EachOps.one1 ?_ ?_
          · intro v W hB hp KK hKK
            rw [if_pos (by rfl)]
            have hp1 : AllOf (A10d p g) v W [3, 9] := hp
            clear hp
            simp only [putAll, Act.put, List.setIfInBounds_toArray, List.set_cons_zero, List.set_cons_succ, Nat.reduceAdd] at hKK ⊢
            have e3 : v 3 = .pointer (some ⟨g, 0, none⟩) := hp1.1
            obtain ⟨r9, e9, hr9⟩ := hp1.2.1
            simp only [e9] at hKK ⊢
            clear e9
            simp only [e3] at hKK ⊢
            clear e3
            clear hp1
            go_simp
            go_at_call 54
            obtain ⟨u, x, a, c, os, hok, hM⟩ := hB
            refine (hM.1.drawAny r9 (by omega)).mono ?_
            rintro e W3 ⟨y3, rfl, hg, hs⟩
            have hM3 := hM.step hp0 hg hs
            clear hM hs
            go_simp
            refine hKK _ _ (only_g hg) ⟨u, x, a, c, os, hok, hM3⟩ ?_
            exact ⟨_, rfl⟩
          refine EachOps.one1 ?_ ?_
          · intro v W hB hp KK hKK
            rw [if_pos (by rfl)]
            have hp1 : AllOf (A10d p g) v W [2, 10] := hp
            clear hp
            simp only [putAll, Act.put, List.setIfInBounds_toArray, List.set_cons_zero, List.set_cons_succ, Nat.reduceAdd] at hKK ⊢
            obtain ⟨r2, e2⟩ := hp1.1
            obtain ⟨r10, e10⟩ := hp1.2.1
            simp only [e2, e10] at hKK ⊢
            clear e2 e10
            clear hp1
            go_simp
            refine hKK _ _ (Only.refl _ _) hB ?_
            exact ⟨_, rfl⟩
          refine EachOps.one1 ?_ ?_
          · intro v W hB hp KK hKK
            rw [if_pos (by rfl)]
            have hp1 : AllOf (A10d p g) v W [] := hp
            clear hp
            simp only [putAll, Act.put, List.setIfInBounds_toArray, List.set_cons_zero, List.set_cons_succ, Nat.reduceAdd] at hKK ⊢
            clear hp1
            go_simp
            refine hKK _ _ (Only.refl _ _) hB ?_
            rfl
          refine EachOps.one1 ?_ ?_
          · intro v W hB hp KK hKK
            rw [if_pos (by rfl)]
            have hp1 : AllOf (A10d p g) v W [] := hp
            clear hp
            simp only [putAll, Act.put, List.setIfInBounds_toArray, List.set_cons_zero, List.set_cons_succ, Nat.reduceAdd] at hKK ⊢
            obtain ⟨u, x, a, c, os, hok, hM⟩ := hB
            have k0 := hM.2.2.1.cell 0 _ rfl; have k1 := hM.2.2.1.cell 1 _ rfl; have k2 := hM.2.2.1.cell 2 _ rfl; have kf := hM.2.2.1.frozen
            clear hp1
            go_simp
            refine hKK _ _ (Only.refl _ _) ⟨u, x, a, c, os, hok, hM⟩ ?_
            exact ⟨u, x, a, c, os, rfl, hM.2.2.2, hok⟩
          refine EachOps.one1 ?_ ?_
          · intro v W hB hp KK hKK
            rw [if_pos (by rfl)]
            have hp1 : AllOf (A10d p g) v W [12, 13, 10] := hp
            clear hp
            simp only [putAll, Act.put, List.setIfInBounds_toArray, List.set_cons_zero, List.set_cons_succ, Nat.reduceAdd] at hKK ⊢
            have e12 : v 12 = .pointer (some ⟨g, 0, none⟩) := hp1.1
            obtain ⟨u2, x2, a2, c2, os2, e13, ho2, hok2⟩ := hp1.2.1
            simp only [e13] at hKK ⊢
            clear e13
            simp only [e12] at hKK ⊢
            clear e12
            clear hp1
            go_simp
            go_at_call 56
            obtain ⟨u, x, a, c, os, hok, hM⟩ := hB
            have hsz := hM.2.2.1.lt
            refine (l15Sacks_walk g len a0 cap0 u2 x2 a2 os2.length c2 os2 _ hM.1.sr0 rfl (fun W3 hg => (by obtain ⟨a3, c3, e3, h3, _⟩ := arrP_own (owns_grb ho2 hg (by omega)); injection e3 with e3 _ _; subst e3; exact h3)) hok2.2.2.1).mono ?_
            rintro e W3 ⟨bb, m, k, zs, rfl, hm, hrow, hg, hs⟩
            have hM3 := hM.step hp0 hg hs
            clear hM hs ho2
            go_simp
            refine hKK _ _ (only_g hg) ⟨u, x, a, c, os, hok, hM3⟩ ?_
            exact ⟨bb, m, k, zs, rfl, hm, row2_mono hrow (by omega)⟩
          refine EachOps.one1 ?_ ?_
          · intro v W hB hp KK hKK
            rw [if_pos (by rfl)]
            have hp1 : AllOf (A10d p g) v W [0, 11, 14, 14] := hp
            clear hp
            simp only [putAll, Act.put, List.setIfInBounds_toArray, List.set_cons_zero, List.set_cons_succ, Nat.reduceAdd] at hKK ⊢
            obtain ⟨u2, x2, a2, c2, os2, e0, ho2, hok2⟩ := hp1.1
            obtain ⟨y11, e11⟩ := hp1.2.1
            obtain ⟨bb, m, k, zs, e14, hm, hrow⟩ := hp1.2.2.1
            simp only [e0, e11, e14] at hKK ⊢
            clear e0 e11 e14
            clear hp1
            go_simp
            go_at_call 55
            refine (anyAck _ hok2 ho2 hrow hm).mono ?_
            rintro e W3 ⟨b, y5, y6, y7, k2, rfl, hnb, hb⟩
            obtain ⟨u, x, a, c, os, hok, hM⟩ := hB
            have hlt2 := hM.2.2.1.lt
            have hM3 := hM.next hb
            have hg : Only [g, p] W W3 := Only.of_below hb
            clear hM hb hrow ho2
            go_simp
            refine hKK _ _ hg ⟨u, x, a, c, os, hok, hM3⟩ ?_
            exact ⟨b, y5, y6, y7, k2, rfl, hnb.mono (by omega)⟩
          refine EachOps.one1 ?_ ?_
          · intro v W hB hp KK hKK
            rw [if_pos (by rfl)]
            have hp1 : AllOf (A10d p g) v W [15] := hp
            clear hp
            simp only [putAll, Act.put, List.setIfInBounds_toArray, List.set_cons_zero, List.set_cons_succ, Nat.reduceAdd] at hKK ⊢
            obtain ⟨b, y5, y6, y7, k2, e15, hnb⟩ := hp1.1
            simp only [e15] at hKK ⊢
            clear e15
            clear hp1
            go_simp
            refine hKK _ _ (Only.refl _ _) hB ?_
            exact ⟨b, y5, y6, y7, k2, rfl, hnb⟩
          refine EachOps.one1 ?_ ?_
          · intro v W hB hp KK hKK
            rw [if_pos (by rfl)]
            have hp1 : AllOf (A10d p g) v W [16] := hp
            clear hp
            simp only [putAll, Act.put, List.setIfInBounds_toArray, List.set_cons_zero, List.set_cons_succ, Nat.reduceAdd] at hKK ⊢
            obtain ⟨b, y5, y6, y7, k2, e16, hnb⟩ := hp1.1
            simp only [e16] at hKK ⊢
            clear e16
            clear hp1
            go_simp
            refine hKK _ _ (Only.refl _ _) hB ?_
            exact hnb
          refine EachOps.one1 ?_ ?_
          · intro v W hB hp KK hKK
            rw [if_pos (by rfl)]
            have hp1 : AllOf (A10d p g) v W [16] := hp
            clear hp
            simp only [putAll, Act.put, List.setIfInBounds_toArray, List.set_cons_zero, List.set_cons_succ, Nat.reduceAdd] at hKK ⊢
            obtain ⟨b, y5, y6, y7, k2, e16, hnb⟩ := hp1.1
            simp only [e16] at hKK ⊢
            clear e16
            clear hp1
            go_simp
            refine hKK _ _ (Only.refl _ _) hB ?_
            exact ⟨_, _, _, rfl⟩
          refine EachOps.one1 ?_ ?_
          · intro v W hB hp KK hKK
            rw [if_pos (by rfl)]
            have hp1 : AllOf (A10d p g) v W [16] := hp
            clear hp
            simp only [putAll, Act.put, List.setIfInBounds_toArray, List.set_cons_zero, List.set_cons_succ, Nat.reduceAdd] at hKK ⊢
            obtain ⟨b, y5, y6, y7, k2, e16, hnb⟩ := hp1.1
            simp only [e16] at hKK ⊢
            clear e16
            clear hp1
            go_simp
            refine hKK _ _ (Only.refl _ _) hB ?_
            exact ⟨_, rfl⟩
          refine EachOps.one1 ?_ ?_
          · intro v W hB hp KK hKK
            rw [if_pos (by rfl)]
            have hp1 : AllOf (A10d p g) v W [17, 15, 0, 1, 2, 3, 4, 5, 6, 7, 8, 9, 10, 11, 12, 13, 14, 15, 16, 17] := hp
            clear hp
            simp only [putAll, Act.put, List.setIfInBounds_toArray, List.set_cons_zero, List.set_cons_succ, Nat.reduceAdd] at hKK ⊢
            obtain ⟨u2, x2, a2, c2, os2, e17, ho2, hok2⟩ := hp1.1
            simp only [e17] at hKK ⊢
            clear e17
            obtain ⟨u, x, a, c, os, hok, hM⟩ := hB
            have k0 := hM.2.2.1.cell 0 _ rfl; have k1 := hM.2.2.1.cell 1 _ rfl; have k2 := hM.2.2.1.cell 2 _ rfl; have kf := hM.2.2.1.frozen
            clear hp1
            have hM3 := hM.put (u' := u2) (x' := x2) hp0 ho2 (Nat.lt_succ_self p)
            have hg3 := grown3 W p (.int .i64 u2) (.int .i64 x2) (.slice a2 os2.length c2)
            have HMM := hide hM3; have HGG := hide hg3
            clear hM hM3 hg3
            go_simp
            refine hKK undef _ (only_p HGG.out) ⟨u2, x2, a2, c2, os2, hok2, HMM.out⟩ ?_
            exact trivial
          exact trivial
        · clear HM6 HOK
          intro v W hB hA
          obtain ⟨u2, x2, a2, c2, os2, hok2, hM2⟩ := hB
          have HOKN := hide hok2; have HN := hide hM2
          clear hA hok2 hM2
          simp only [putAll, Act.put, List.setIfInBounds_toArray, List.set_cons_zero, List.set_cons_succ, Nat.reduceAdd]
          go_wp2_with fail
          exact ⟨⟨i + 1, _, _, _, _, _, by go_num, by omega, HOKN, HN⟩, by simp [intOf]; omega⟩
      · skip
        go_upto_region 12 with fail
        refine wp_region_each (fun W W2 => Only [g, p] W W2) (fun W => BdX w W g len a0 cap0 p) (A12d p g) (by kernel_rfl) (by kernel_rfl) (by kernel_rfl) (A12d_kept hgp) ⟨u, x, a, c, os, HOK.out, HM6.out.next (Below.refl _ _).drew⟩ ?_ ?_
        · clear HM6 HOK
          refine EachOps.one1 ?_ ?_
          · intro v W hB hp KK hKK
            rw [if_pos (by rfl)]
            have hp1 : AllOf (A12d p g) v W [] := hp
            clear hp
            simp only [putAll, Act.put, List.setIfInBounds_toArray, List.set_cons_zero, List.set_cons_succ, Nat.reduceAdd] at hKK ⊢
            obtain ⟨u, x, a, c, os, hok, hM⟩ := hB
            have k0 := hM.2.2.1.cell 0 _ rfl; have k1 := hM.2.2.1.cell 1 _ rfl; have k2 := hM.2.2.1.cell 2 _ rfl; have kf := hM.2.2.1.frozen
            clear hp1
            go_simp
            refine hKK _ _ (Only.refl _ _) ⟨u, x, a, c, os, hok, hM⟩ ?_
            exact ⟨u, x, a, c, os, rfl, hM.2.2.2, hok⟩
          refine EachOps.one1 ?_ ?_
          · intro v W hB hp KK hKK
            rw [if_pos (by rfl)]
            have hp1 : AllOf (A12d p g) v W [] := hp
            clear hp
            simp only [putAll, Act.put, List.setIfInBounds_toArray, List.set_cons_zero, List.set_cons_succ, Nat.reduceAdd] at hKK ⊢
            clear hp1
            go_simp
            refine hKK _ _ (Only.refl _ _) hB ?_
            rfl
          refine EachOps.one1 ?_ ?_
          · intro v W hB hp KK hKK
            rw [if_pos (by rfl)]
            have hp1 : AllOf (A12d p g) v W [1] := hp
            clear hp
            simp only [putAll, Act.put, List.setIfInBounds_toArray, List.set_cons_zero, List.set_cons_succ, Nat.reduceAdd] at hKK ⊢
            have e1 : v 1 = .pointer (some ⟨p, 0, none⟩) := hp1.1
            obtain ⟨u, x, a, c, os, hok, hM⟩ := hB
            have k0 := hM.2.2.1.cell 0 _ rfl; have k1 := hM.2.2.1.cell 1 _ rfl; have k2 := hM.2.2.1.cell 2 _ rfl; have kf := hM.2.2.1.frozen
            simp only [e1] at hKK ⊢
            clear e1
            clear hp1
            go_simp
            refine hKK _ _ (Only.refl _ _) ⟨u, x, a, c, os, hok, hM⟩ ?_
            exact ⟨_, rfl⟩
          refine EachOps.one1 ?_ ?_
          · intro v W hB hp KK hKK
            rw [if_pos (by rfl)]
            have hp1 : AllOf (A12d p g) v W [] := hp
            clear hp
            simp only [putAll, Act.put, List.setIfInBounds_toArray, List.set_cons_zero, List.set_cons_succ, Nat.reduceAdd] at hKK ⊢
            clear hp1
            go_simp
            refine hKK _ _ (Only.refl _ _) hB ?_
            rfl
          refine EachOps.one1 ?_ ?_
          · intro v W hB hp KK hKK
            rw [if_pos (by rfl)]
            have hp1 : AllOf (A12d p g) v W [] := hp
            clear hp
            simp only [putAll, Act.put, List.setIfInBounds_toArray, List.set_cons_zero, List.set_cons_succ, Nat.reduceAdd] at hKK ⊢
            obtain ⟨u, x, a, c, os, hok, hM⟩ := hB
            have k0 := hM.2.2.1.cell 0 _ rfl; have k1 := hM.2.2.1.cell 1 _ rfl; have k2 := hM.2.2.1.cell 2 _ rfl; have kf := hM.2.2.1.frozen
            clear hp1
            go_simp
            refine hKK _ _ (Only.refl _ _) ⟨u, x, a, c, os, hok, hM⟩ ?_
            exact ⟨u, x, a, c, os, rfl, hM.2.2.2, hok⟩
          refine EachOps.one1 ?_ ?_
          · intro v W hB hp KK hKK
            rw [if_pos (by rfl)]
            have hp1 : AllOf (A12d p g) v W [3, 4] := hp
            clear hp
            simp only [putAll, Act.put, List.setIfInBounds_toArray, List.set_cons_zero, List.set_cons_succ, Nat.reduceAdd] at hKK ⊢
            have e3 : v 3 = .pointer (some ⟨g, 0, none⟩) := hp1.1
            obtain ⟨u2, x2, a2, c2, os2, e4, ho2, hok2⟩ := hp1.2.1
            simp only [e4] at hKK ⊢
            clear e4
            simp only [e3] at hKK ⊢
            clear e3
            clear hp1
            go_simp
            go_at_call 56
            obtain ⟨u, x, a, c, os, hok, hM⟩ := hB
            have hsz := hM.2.2.1.lt
            refine (l15Sacks_walk g len a0 cap0 u2 x2 a2 os2.length c2 os2 _ hM.1.sr0 rfl (fun W3 hg => (by obtain ⟨a3, c3, e3, h3, _⟩ := arrP_own (owns_grb ho2 hg (by omega)); injection e3 with e3 _ _; subst e3; exact h3)) hok2.2.2.1).mono ?_
            rintro e W3 ⟨bb, m, k, zs, rfl, hm, hrow, hg, hs⟩
            have hM3 := hM.step hp0 hg hs
            clear hM hs ho2
            go_simp
            refine hKK _ _ (only_g hg) ⟨u, x, a, c, os, hok, hM3⟩ ?_
            exact ⟨bb, m, k, zs, rfl, hm, row2_mono hrow (by omega)⟩
          refine EachOps.one1 ?_ ?_
          · intro v W hB hp KK hKK
            rw [if_pos (by rfl)]
            have hp1 : AllOf (A12d p g) v W [0, 2, 5, 5] := hp
            clear hp
            simp only [putAll, Act.put, List.setIfInBounds_toArray, List.set_cons_zero, List.set_cons_succ, Nat.reduceAdd] at hKK ⊢
            obtain ⟨u2, x2, a2, c2, os2, e0, ho2, hok2⟩ := hp1.1
            obtain ⟨y11, e2⟩ := hp1.2.1
            obtain ⟨bb, m, k, zs, e5, hm, hrow⟩ := hp1.2.2.1
            simp only [e0, e2, e5] at hKK ⊢
            clear e0 e2 e5
            clear hp1
            go_simp
            go_at_call 55
            refine (anyAck _ hok2 ho2 hrow hm).mono ?_
            rintro e W3 ⟨b, y5, y6, y7, k2, rfl, hnb, hb⟩
            obtain ⟨u, x, a, c, os, hok, hM⟩ := hB
            have hlt2 := hM.2.2.1.lt
            have hM3 := hM.next hb
            have hg : Only [g, p] W W3 := Only.of_below hb
            clear hM hb hrow ho2
            go_simp
            refine hKK _ _ hg ⟨u, x, a, c, os, hok, hM3⟩ ?_
            exact ⟨b, y5, y6, y7, k2, rfl, hnb.mono (by omega)⟩
          refine EachOps.one1 ?_ ?_
          · intro v W hB hp KK hKK
            rw [if_pos (by rfl)]
            have hp1 : AllOf (A12d p g) v W [6] := hp
            clear hp
            simp only [putAll, Act.put, List.setIfInBounds_toArray, List.set_cons_zero, List.set_cons_succ, Nat.reduceAdd] at hKK ⊢
            obtain ⟨b, y5, y6, y7, k2, e6, hnb⟩ := hp1.1
            simp only [e6] at hKK ⊢
            clear e6
            clear hp1
            go_simp
            refine hKK _ _ (Only.refl _ _) hB ?_
            exact ⟨b, y5, y6, y7, k2, rfl, hnb⟩
          refine EachOps.one1 ?_ ?_
          · intro v W hB hp KK hKK
            rw [if_pos (by rfl)]
            have hp1 : AllOf (A12d p g) v W [7] := hp
            clear hp
            simp only [putAll, Act.put, List.setIfInBounds_toArray, List.set_cons_zero, List.set_cons_succ, Nat.reduceAdd] at hKK ⊢
            obtain ⟨b, y5, y6, y7, k2, e7, hnb⟩ := hp1.1
            simp only [e7] at hKK ⊢
            clear e7
            clear hp1
            go_simp
            refine hKK _ _ (Only.refl _ _) hB ?_
            exact hnb
          refine EachOps.one1 ?_ ?_
          · intro v W hB hp KK hKK
            rw [if_pos (by rfl)]
            have hp1 : AllOf (A12d p g) v W [7] := hp
            clear hp
            simp only [putAll, Act.put, List.setIfInBounds_toArray, List.set_cons_zero, List.set_cons_succ, Nat.reduceAdd] at hKK ⊢
            obtain ⟨b, y5, y6, y7, k2, e7, hnb⟩ := hp1.1
            simp only [e7] at hKK ⊢
            clear e7
            clear hp1
            go_simp
            refine hKK _ _ (Only.refl _ _) hB ?_
            exact ⟨_, _, _, rfl⟩
          refine EachOps.one1 ?_ ?_
          · intro v W hB hp KK hKK
            rw [if_pos (by rfl)]
            have hp1 : AllOf (A12d p g) v W [7] := hp
            clear hp
            simp only [putAll, Act.put, List.setIfInBounds_toArray, List.set_cons_zero, List.set_cons_succ, Nat.reduceAdd] at hKK ⊢
            obtain ⟨b, y5, y6, y7, k2, e7, hnb⟩ := hp1.1
            simp only [e7] at hKK ⊢
            clear e7
            clear hp1
            go_simp
            refine hKK _ _ (Only.refl _ _) hB ?_
            exact ⟨_, rfl⟩
          refine EachOps.one1 ?_ ?_
          · intro v W hB hp KK hKK
            rw [if_pos (by rfl)]
            have hp1 : AllOf (A12d p g) v W [8, 6, 0, 1, 2, 3, 4, 5, 6, 7, 8] := hp
            clear hp
            simp only [putAll, Act.put, List.setIfInBounds_toArray, List.set_cons_zero, List.set_cons_succ, Nat.reduceAdd] at hKK ⊢
            obtain ⟨u2, x2, a2, c2, os2, e8, ho2, hok2⟩ := hp1.1
            simp only [e8] at hKK ⊢
            clear e8
            obtain ⟨u, x, a, c, os, hok, hM⟩ := hB
            have k0 := hM.2.2.1.cell 0 _ rfl; have k1 := hM.2.2.1.cell 1 _ rfl; have k2 := hM.2.2.1.cell 2 _ rfl; have kf := hM.2.2.1.frozen
            clear hp1
            have hM3 := hM.put (u' := u2) (x' := x2) hp0 ho2 (Nat.lt_succ_self p)
            have hg3 := grown3 W p (.int .i64 u2) (.int .i64 x2) (.slice a2 os2.length c2)
            have HMM := hide hM3; have HGG := hide hg3
            clear hM hM3 hg3
            go_simp
            refine hKK undef _ (only_p HGG.out) ⟨u2, x2, a2, c2, os2, hok2, HMM.out⟩ ?_
            exact trivial
          exact trivial
        · clear HM6 HOK
          intro v W hB hA
          obtain ⟨u2, x2, a2, c2, os2, hok2, hM2⟩ := hB
          have HOKN := hide hok2; have HN := hide hM2
          clear hA hok2 hM2
          simp only [putAll, Act.put, List.setIfInBounds_toArray, List.set_cons_zero, List.set_cons_succ, Nat.reduceAdd]
          go_wp2_with fail
          exact ⟨⟨i + 1, _, _, _, _, _, by go_num, by omega, HOKN, HN⟩, by simp [intOf]; omega⟩
      · skip
        have k0 := HM6.out.2.2.1.cell 0 _ rfl; have k1 := HM6.out.2.2.1.cell 1 _ rfl; have k2 := HM6.out.2.2.1.cell 2 _ rfl; have kf := HM6.out.2.2.1.frozen
        have CL := hide (anyLose HOK.out HM6.out.2.2.2)
        go_wp2_with fail
        refine CL.out.mono ?_
        rintro e V7 ⟨b, k, c1, rfl, hnb, hb7⟩
        have HM7 := hide (HM6.out.next hb7)
        have hp7 : p < V6.heap.size := HM6.out.2.2.1.lt
        clear CL k0 k1 k2 kf hb7 HM6
        obtain ⟨u2, x2, a2, c2, os2, rfl, ho2, hok2⟩ := hnb
        have HOKN := hide hok2
        have HN := hide (HM7.out.put (u' := u2) (x' := x2) hp0 ho2 (by omega))
        have k0 := HM7.out.2.2.1.cell 0 _ rfl; have k1 := HM7.out.2.2.1.cell 1 _ rfl; have k2 := HM7.out.2.2.1.cell 2 _ rfl; have kf := HM7.out.2.2.1.frozen
        clear ho2 hok2 HM7
        go_wp2_with fail
        exact ⟨⟨i + 1, _, _, _, _, _, by go_num, by omega, HOKN, HN⟩, by simp [intOf]; omega⟩
      · skip
        have k0 := HM6.out.2.2.1.cell 0 _ rfl; have k1 := HM6.out.2.2.1.cell 1 _ rfl; have k2 := HM6.out.2.2.1.cell 2 _ rfl; have kf := HM6.out.2.2.1.frozen
        have CL := hide (anyFirst HOK.out HM6.out.2.2.2)
        go_wp2_with fail
        refine CL.out.mono ?_
        rintro e V7 ⟨b, k, c1, rfl, hnb, hb7⟩
        have HM7 := hide (HM6.out.next hb7)
        have hp7 : p < V6.heap.size := HM6.out.2.2.1.lt
        clear CL k0 k1 k2 kf hb7 HM6
        obtain ⟨u2, x2, a2, c2, os2, rfl, ho2, hok2⟩ := hnb
        have HOKN := hide hok2
        have HN := hide (HM7.out.put (u' := u2) (x' := x2) hp0 ho2 (by omega))
        have k0 := HM7.out.2.2.1.cell 0 _ rfl; have k1 := HM7.out.2.2.1.cell 1 _ rfl; have k2 := HM7.out.2.2.1.cell 2 _ rfl; have kf := HM7.out.2.2.1.frozen
        clear ho2 hok2 HM7
        go_wp2_with fail
        exact ⟨⟨i + 1, _, _, _, _, _, by go_num, by omega, HOKN, HN⟩, by simp [intOf]; omega⟩
      · skip
        go_wp2_with fail
        refine (HM6.out.1.draw 3 (by omega) (by omega)).mono ?_
        rintro e V6b ⟨z3, rfl, z30, z31, hg6, hs6⟩
        have HM6b := hide (HM6.out.step hp0 hg6 hs6)
        clear hg6 hs6 HM6
        by_cases h3 : z3 = 0
        · subst h3
          have k0 := HM6b.out.2.2.1.cell 0 _ rfl; have k1 := HM6b.out.2.2.1.cell 1 _ rfl; have k2 := HM6b.out.2.2.1.cell 2 _ rfl; have kf := HM6b.out.2.2.1.frozen
          have CL := hide (anyTimeout HOK.out HM6b.out.2.2.2)
          go_wp2_with fail
          refine CL.out.mono ?_
          rintro e V7 ⟨b, c1, rfl, hnb, hb7⟩
          have HM7 := hide (HM6b.out.next hb7)
          have hp7 : p < V6b.heap.size := HM6b.out.2.2.1.lt
          clear CL k0 k1 k2 kf hb7 HM6b
          obtain ⟨u2, x2, a2, c2, os2, rfl, ho2, hok2⟩ := hnb
          have HOKN := hide hok2
          have HN := hide (HM7.out.put (u' := u2) (x' := x2) hp0 ho2 (by omega))
          have k0 := HM7.out.2.2.1.cell 0 _ rfl; have k1 := HM7.out.2.2.1.cell 1 _ rfl; have k2 := HM7.out.2.2.1.cell 2 _ rfl; have kf := HM7.out.2.2.1.frozen
          clear ho2 hok2 HM7
          go_wp2_with fail
          exact ⟨⟨i + 1, _, _, _, _, _, by go_num, by omega, HOKN, HN⟩, by simp [intOf]; omega⟩
        · go_wp2_with fail
          exact ⟨⟨i + 1, _, _, _, _, _, by go_num, by omega, HOK, HM6b⟩, by simp [intOf]; omega⟩
      · skip
        have k0 := HM6.out.2.2.1.cell 0 _ rfl; have k1 := HM6.out.2.2.1.cell 1 _ rfl; have k2 := HM6.out.2.2.1.cell 2 _ rfl; have kf := HM6.out.2.2.1.frozen
        have CL := hide (anyAgain (10 * (i : Int)) HOK.out HM6.out.2.2.2 (by omega))
        go_wp2_with fail
        refine CL.out.mono ?_
        rintro e V7 ⟨b, q0, q1, q2, q3, q4, q5, c1, rfl, hnb, hb7⟩
        have HM7 := hide (HM6.out.next hb7)
        have hp7 : p < V6.heap.size := HM6.out.2.2.1.lt
        have hp8 : p < V7.heap.size := HM7.out.2.2.1.lt
        clear CL k0 k1 k2 kf hb7 HM6
        obtain ⟨u2, x2, a2, c2, os2, rfl, ho2, hok2⟩ := hnb
        obtain ⟨hb8, hx8, _⟩ := two_boxes V7 #[.int .i64 u2, .int .i64 x2, .slice a2 os2.length c2] #[.int .i64 q0, .int .i64 q1, .int .i64 q2, .int .i64 q3, .bool q4, .bool q5] 29 48
        have HO2 := hide (owns_nx ho2 hb8)
        have HM8 := hide (HM7.out.next hb8)
        have HX8 := hide hx8
        have HOK2 := hide hok2
        clear ho2 hok2 hb8 hx8 HM7
        go_upto_region 22 with fail
        generalize ((V7.alloc (.cells #[.int .i64 u2, .int .i64 x2, .slice a2 os2.length c2] 29)).alloc (.cells #[.int .i64 q0, .int .i64 q1, .int .i64 q2, .int .i64 q3, .bool q4, .bool q5] 48)) = V8 at *
        generalize V7.heap.size = q at *
        by_cases hc : c1 = 0
        · subst hc
          have j0 := HX8.out.cell 0 _ rfl; have j1 := HX8.out.cell 1 _ rfl; have j2 := HX8.out.cell 2 _ rfl
          have k0 := HM8.out.2.2.1.cell 0 _ rfl; have k1 := HM8.out.2.2.1.cell 1 _ rfl; have k2 := HM8.out.2.2.1.cell 2 _ rfl; have kf := HM8.out.2.2.1.frozen
          have HN := hide (HM8.out.put (u' := u2) (x' := x2) hp0 HO2.out hp7)
          clear HM8 HX8 HO2
          go_wp2_with fail
          exact ⟨⟨i + 1, _, _, _, _, _, by go_num, by omega, HOK2, HN⟩, by simp [intOf]; omega⟩
        · go_wp2_with fail
          exact ⟨⟨i + 1, _, _, _, _, _, by go_num, by omega, HOK, HM8⟩, by simp [intOf]; omega⟩
      · skip
        go_upto_region 8 with fail
        simp only [show (z == 0) = false from beq_eq_false_iff_ne.2 (by omega), show (z == 1) = false from beq_eq_false_iff_ne.2 (by omega), show (z == 2) = false from beq_eq_false_iff_ne.2 (by omega), show (z == 3) = false from beq_eq_false_iff_ne.2 (by omega), show (z == 4) = false from beq_eq_false_iff_ne.2 (by omega), show (z == 5) = false from beq_eq_false_iff_ne.2 (by omega)]
        refine wp_region_each (fun W W2 => Only [g, p] W W2) (fun W => BdX w W g len a0 cap0 p) (A8d p g) (by kernel_rfl) (by kernel_rfl) (by kernel_rfl) (A8d_kept hgp) ⟨u, x, a, c, os, HOK.out, HM6.out.next (Below.refl _ _).drew⟩ ?_ ?_
        · clear HM6 HOK
          refine EachOps.one1 ?_ ?_
          · intro v W hB hp KK hKK
            rw [if_pos (by rfl)]
            have hp1 : AllOf (A8d p g) v W [] := hp
            clear hp
            simp only [putAll, Act.put, List.setIfInBounds_toArray, List.set_cons_zero, List.set_cons_succ, Nat.reduceAdd] at hKK ⊢
            obtain ⟨u, x, a, c, os, hok, hM⟩ := hB
            have k0 := hM.2.2.1.cell 0 _ rfl; have k1 := hM.2.2.1.cell 1 _ rfl; have k2 := hM.2.2.1.cell 2 _ rfl; have kf := hM.2.2.1.frozen
            clear hp1
            go_simp
            refine hKK _ _ (Only.refl _ _) ⟨u, x, a, c, os, hok, hM⟩ ?_
            exact ⟨u, x, a, c, os, rfl, hM.2.2.2, hok⟩
          refine EachOps.one1 ?_ ?_
          · intro v W hB hp KK hKK
            rw [if_pos (by rfl)]
            have hp1 : AllOf (A8d p g) v W [] := hp
            clear hp
            simp only [putAll, Act.put, List.setIfInBounds_toArray, List.set_cons_zero, List.set_cons_succ, Nat.reduceAdd] at hKK ⊢
            clear hp1
            go_simp
            refine hKK _ _ (Only.refl _ _) hB ?_
            rfl
          refine EachOps.one1 ?_ ?_
          · intro v W hB hp KK hKK
            rw [if_pos (by rfl)]
            have hp1 : AllOf (A8d p g) v W [1] := hp
            clear hp
            simp only [putAll, Act.put, List.setIfInBounds_toArray, List.set_cons_zero, List.set_cons_succ, Nat.reduceAdd] at hKK ⊢
            have e1 : v 1 = .pointer (some ⟨g, 0, none⟩) := hp1.1
            simp only [e1] at hKK ⊢
            clear e1
            clear hp1
            go_simp
            go_at_call 54
            obtain ⟨u, x, a, c, os, hok, hM⟩ := hB
            refine (hM.1.drawAny 30 (by omega)).mono ?_
            rintro e W3 ⟨y3, rfl, hg, hs⟩
            have hM3 := hM.step hp0 hg hs
            clear hM hs
            go_simp
            refine hKK _ _ (only_g hg) ⟨u, x, a, c, os, hok, hM3⟩ ?_
            exact ⟨_, rfl⟩
          refine EachOps.one1 ?_ ?_
          · intro v W hB hp KK hKK
            rw [if_pos (by rfl)]
            have hp1 : AllOf (A8d p g) v W [2] := hp
            clear hp
            simp only [putAll, Act.put, List.setIfInBounds_toArray, List.set_cons_zero, List.set_cons_succ, Nat.reduceAdd] at hKK ⊢
            obtain ⟨r2, e2⟩ := hp1.1
            simp only [e2] at hKK ⊢
            clear e2
            clear hp1
            go_simp
            refine hKK _ _ (Only.refl _ _) hB ?_
            exact ⟨_, rfl⟩
          refine EachOps.one1 ?_ ?_
          · intro v W hB hp KK hKK
            rw [if_pos (by rfl)]
            have hp1 : AllOf (A8d p g) v W [] := hp
            clear hp
            simp only [putAll, Act.put, List.setIfInBounds_toArray, List.set_cons_zero, List.set_cons_succ, Nat.reduceAdd] at hKK ⊢
            clear hp1
            go_simp
            refine hKK _ _ (Only.refl _ _) hB ?_
            exact ⟨_, rfl⟩
          refine EachOps.one1 ?_ ?_
          · intro v W hB hp KK hKK
            rw [if_pos (by rfl)]
            have hp1 : AllOf (A8d p g) v W [4] := hp
            clear hp
            simp only [putAll, Act.put, List.setIfInBounds_toArray, List.set_cons_zero, List.set_cons_succ, Nat.reduceAdd] at hKK ⊢
            obtain ⟨r4, e4⟩ := hp1.1
            simp only [e4] at hKK ⊢
            clear e4
            clear hp1
            go_simp
            refine hKK _ _ (Only.refl _ _) hB ?_
            exact ⟨_, rfl⟩
          refine EachOps.one1 ?_ ?_
          · intro v W hB hp KK hKK
            rw [if_pos (by rfl)]
            have hp1 : AllOf (A8d p g) v W [0, 3, 5, 2] := hp
            clear hp
            simp only [putAll, Act.put, List.setIfInBounds_toArray, List.set_cons_zero, List.set_cons_succ, Nat.reduceAdd] at hKK ⊢
            obtain ⟨u2, x2, a2, c2, os2, e0, ho2, hok2⟩ := hp1.1
            obtain ⟨y11, e3⟩ := hp1.2.1
            obtain ⟨y12, e5⟩ := hp1.2.2.1
            simp only [e0, e3, e5] at hKK ⊢
            clear e0 e3 e5
            clear hp1
            go_simp
            go_at_call 10
            refine (anySend _ _ hok2 ho2).mono ?_
            rintro e W3 ⟨b, k2, rfl, hnb, hb⟩
            obtain ⟨u, x, a, c, os, hok, hM⟩ := hB
            have hlt2 := hM.2.2.1.lt
            have hM3 := hM.next hb
            have hg : Only [g, p] W W3 := Only.of_below hb
            clear hM hb ho2
            go_simp
            refine hKK _ _ hg ⟨u, x, a, c, os, hok, hM3⟩ ?_
            exact ⟨b, k2, rfl, hnb.mono (by omega)⟩
          refine EachOps.one1 ?_ ?_
          · intro v W hB hp KK hKK
            rw [if_pos (by rfl)]
            have hp1 : AllOf (A8d p g) v W [6] := hp
            clear hp
            simp only [putAll, Act.put, List.setIfInBounds_toArray, List.set_cons_zero, List.set_cons_succ, Nat.reduceAdd] at hKK ⊢
            obtain ⟨b, k2, e6, hnb⟩ := hp1.1
            simp only [e6] at hKK ⊢
            clear e6
            clear hp1
            go_simp
            refine hKK _ _ (Only.refl _ _) hB ?_
            exact ⟨b, k2, rfl, hnb⟩
          refine EachOps.one1 ?_ ?_
          · intro v W hB hp KK hKK
            rw [if_pos (by rfl)]
            have hp1 : AllOf (A8d p g) v W [7] := hp
            clear hp
            simp only [putAll, Act.put, List.setIfInBounds_toArray, List.set_cons_zero, List.set_cons_succ, Nat.reduceAdd] at hKK ⊢
            obtain ⟨b, k2, e7, hnb⟩ := hp1.1
            simp only [e7] at hKK ⊢
            clear e7
            clear hp1
            go_simp
            refine hKK _ _ (Only.refl _ _) hB ?_
            exact hnb
          refine EachOps.one1 ?_ ?_
          · intro v W hB hp KK hKK
            rw [if_pos (by rfl)]
            have hp1 : AllOf (A8d p g) v W [7] := hp
            clear hp
            simp only [putAll, Act.put, List.setIfInBounds_toArray, List.set_cons_zero, List.set_cons_succ, Nat.reduceAdd] at hKK ⊢
            obtain ⟨b, k2, e7, hnb⟩ := hp1.1
            simp only [e7] at hKK ⊢
            clear e7
            clear hp1
            go_simp
            refine hKK _ _ (Only.refl _ _) hB ?_
            exact ⟨_, rfl⟩
          refine EachOps.one1 ?_ ?_
          · intro v W hB hp KK hKK
            rw [if_pos (by rfl)]
            have hp1 : AllOf (A8d p g) v W [8, 6, 0, 1, 2, 3, 4, 5, 6, 7, 8] := hp
            clear hp
            simp only [putAll, Act.put, List.setIfInBounds_toArray, List.set_cons_zero, List.set_cons_succ, Nat.reduceAdd] at hKK ⊢
            obtain ⟨u2, x2, a2, c2, os2, e8, ho2, hok2⟩ := hp1.1
            simp only [e8] at hKK ⊢
            clear e8
            obtain ⟨u, x, a, c, os, hok, hM⟩ := hB
            have k0 := hM.2.2.1.cell 0 _ rfl; have k1 := hM.2.2.1.cell 1 _ rfl; have k2 := hM.2.2.1.cell 2 _ rfl; have kf := hM.2.2.1.frozen
            clear hp1
            have hM3 := hM.put (u' := u2) (x' := x2) hp0 ho2 (Nat.lt_succ_self p)
            have hg3 := grown3 W p (.int .i64 u2) (.int .i64 x2) (.slice a2 os2.length c2)
            have HMM := hide hM3; have HGG := hide hg3
            clear hM hM3 hg3
            go_simp
            refine hKK undef _ (only_p HGG.out) ⟨u2, x2, a2, c2, os2, hok2, HMM.out⟩ ?_
            exact trivial
          exact trivial
        · clear HM6 HOK
          intro v W hB hA
          obtain ⟨u2, x2, a2, c2, os2, hok2, hM2⟩ := hB
          have HOKN := hide hok2; have HN := hide hM2
          clear hA hok2 hM2
          simp only [putAll, Act.put, List.setIfInBounds_toArray, List.set_cons_zero, List.set_cons_succ, Nat.reduceAdd]
          go_wp2_with fail
          exact ⟨⟨i + 1, _, _, _, _, _, by go_num, by omega, HOKN, HN⟩, by simp [intOf]; omega⟩
    · have r0 := HM.out.2.1.cell 0 _ rfl; have r1 := HM.out.2.1.cell 1 _ rfl; have r2 := HM.out.2.1.cell 2 _ rfl; have rf := HM.out.2.1.frozen
      have k0 := HM.out.2.2.1.cell 0 _ rfl; have k1 := HM.out.2.2.1.cell 1 _ rfl; have k2 := HM.out.2.2.1.cell 2 _ rfl; have kf := HM.out.2.2.1.frozen
      have HG := hide (fun (x0 x1 x2 : Value) => grown3 V5 w.heap.size x0 x1 x2)
      go_wp2_with fail
      exact bodyPost_ret (v := .agg #[.int .i64 u, .int .i64 x, .slice a os.length c]) (by simp [results, Try.results38, go_sem, r0, r1, r2]) rfl ⟨_, rfl, ⟨u, x, a, c, os, rfl, ownP_mono (owns_grb HM.out.2.2.2 (HG.out _ _ _) (by omega)) (by omega), HOK.out⟩, (HM.out.1.put (HG.out _ _ _) (Nat.le_refl _)).2.1, (HM.out.1.put (HG.out _ _ _) (Nat.le_refl _)).2.2⟩
set_option maxRecDepth 100000
/-- A board, valid or not, whose row lies behind B. -/
def BnP (w : World) (B g len : Nat) (a0 : Option Addr) (cap0 : Nat) (e : Ending) (w' : World) : Prop := ∃ (u x : Int) (v : Value) (os : List PieceM), e = .returned (.agg #[.int .i64 u, .int .i64 x, v]) ∧ OwnP w' B v os ∧ os.length ≤ 1048576 ∧ w.grownBy w' (some g) ∧ SrcA w' g 54 len a0 cap0
/-- l15Bend under way: the board's box, the answer's box, the board's own row. -/
def BnM (w W : World) (g len : Nat) (a0 : Option Addr) (cap0 : Nat) (u x : Int) (v : Value) (n BB : Nat) (os : List PieceM) : Prop :=
  DS w W g len a0 cap0 ∧ HoldV W w.heap.size #[.int .i64 u, .int .i64 x, v] 29 ∧ HoldV W (w.heap.size + 1) #[.int .i64 0, .int .i64 0, .slice none 0 0] 29 ∧ RowP W BB v n os
theorem BnM.next {w W W' : World} {g len cap0 n BB : Nat} {a0 : Option Addr} {u x : Int} {v : Value} {os : List PieceM} (h : BnM w W g len a0 cap0 u x v n BB os) (hb : Below W.heap.size W W') : BnM w W' g len a0 cap0 u x v n BB os := ⟨h.1.next hb, h.2.1.next hb, h.2.2.1.next hb, h.2.2.2.next hb⟩
theorem BnM.step {w W W' : World} {g len cap0 n BB : Nat} {a0 : Option Addr} {u x : Int} {v : Value} {os : List PieceM} (h : BnM w W g len a0 cap0 u x v n BB os) (hBB : w.heap.size + 1 < BB) (hg : W.grownBy W' (some g)) (hs : SrcA W' g 54 len a0 cap0) : BnM w W' g len a0 cap0 u x v n BB os :=
  ⟨h.1.step hg hs, hv_gr h.2.1 hg (by have := h.1.lt; omega), hv_gr h.2.2.1 hg (by have := h.1.lt; omega), row_gr h.2.2.2 hg (by have := h.1.lt; omega)⟩
/-- A field of a piece is put anew. -/
theorem BnM.pput {w W : World} {g len cap0 n BB r nz : Nat} {a0 : Option Addr} {u x : Int} {os : List PieceM} (h : BnM w W g len a0 cap0 u x (.slice (some ⟨r, 0, none⟩) n nz) n BB os) (hBB : w.heap.size + 1 < BB) (hr : BB ≤ r) {i j : Nat} (hi : i < os.length) (hj : j < 6) (y : Value) (o' : PieceM) (he : valPiece o' = (valPiece os[i]).set j y) :
    BnM w (W.setCell ⟨r, i * 6 + j, none⟩ y) g len a0 cap0 u x (.slice (some ⟨r, 0, none⟩) n nz) n BB (os.set i o') := by
  have hg : W.grownBy (W.setCell ⟨r, i * 6 + j, none⟩ y) (some r) := gr_set (grown_reflp _ _) _ _
  exact ⟨h.1.put hg (by omega), hv_gr h.2.1 hg (by omega), hv_gr h.2.2.1 hg (by omega), h.2.2.2.put hi hj y o' he⟩
/-- A field of the board is put anew. -/
theorem BnM.bput {w W W' : World} {g len cap0 n n' BB : Nat} {a0 : Option Addr} {u x u' x' : Int} {v v' : Value} {os os' : List PieceM} (h : BnM w W g len a0 cap0 u x v n BB os) (hg : W.grownBy W' (some w.heap.size)) (hh : HoldV W' w.heap.size #[.int .i64 u', .int .i64 x', v'] 29) (hr : RowP W' BB v' n' os') : BnM w W' g len a0 cap0 u' x' v' n' BB os' :=
  ⟨h.1.put hg (Nat.le_refl _), hh, hv_gr h.2.2.1 hg (by omega), hr⟩
set_option maxHeartbeats 16000000 in
theorem l15Bend_walk (g len : Nat) (a0 : Option Addr) (cap0 : Nat) (u x : Int) (a : Option Addr) (c B : Nat) (os : List PieceM) (w : World) (hS : Sr0 w g len a0 cap0) (ho : OwnP w B (.slice a os.length c) os) (hB : B ≤ w.heap.size) (hgB : g < B) (hok : bOK u x os) :
    Calls Try.prog 37 #[.pointer (some ⟨g, 0, none⟩), .agg #[.int .i64 u, .int .i64 x, .slice a os.length c]] w fun e w' => BnP w B g len a0 cap0 e w' := by
  obtain ⟨n, hn⟩ : ∃ n, n = os.length := ⟨_, rfl⟩
  have hm : n ≤ 4096 := by rw [hn]; exact hok.2.2.1
  have hux : 0 ≤ u ∧ u ≤ x ∧ x ≤ 1099511627776 := ⟨hok.1, chk_le _ _ _ hok.2.2.2, hok.2.1⟩
  rw [← hn] at ho ⊢
  have HN := hide hn
  obtain ⟨hb2, hX, hR⟩ := two_boxes w #[.int .i64 u, .int .i64 x, .slice a n c] #[.int .i64 0, .int .i64 0, .slice none 0 0] 29 29
  have HD0 := hide ((DS.start hS).next hb2); have HDS := hide (DS.start hS)
  have HX0 := hide hX; have HR0 := hide hR
  have HO0 := hide ho; have HB2 := hide hb2
  obtain ⟨a1, c1, e1, har, hnc, _⟩ := arrP_own ho
  injection e1 with e1 e2 e3
  clear e2
  subst e1 e3
  have HA0 := hide (har.below hb2 (Nat.le_refl _))
  have HOK := hide hok
  clear hn hb2 hX hR ho har hS hok
  have k0 := HX0.out.cell 0 _ rfl; have k1 := HX0.out.cell 1 _ rfl; have k2 := HX0.out.cell 2 _ rfl; have kf := HX0.out.frozen
  have r0 := HR0.out.cell 0 _ rfl; have r1 := HR0.out.cell 1 _ rfl; have r2 := HR0.out.cell 2 _ rfl; have rf := HR0.out.frozen
  have hgl : g < w.heap.size := by omega
  go_enter Try.func37, Try.ntmps37
  by_cases h0 : n = 0
  · subst h0
    go_upto_region 2 with fail
    have hb9 : Below w.heap.size w ((w.alloc (.cells #[.int .i64 u, .int .i64 x, .slice a 0 c] 29)).alloc (.cells #[.int .i64 u, .int .i64 x, .slice a 0 c] 29)) := (two_boxes w _ _ 29 29).1
    have HB9 := hide hb9; have HO9 := hide (owns_nx HO0.out hb9); have HD9 := hide (HDS.out.next hb9)
    clear hb9 HO0 HB2
    go_wp2_with fail
    exact bodyPost_ret (v := .agg #[.int .i64 u, .int .i64 x, .slice a 0 c]) (by simp [results, Try.results37, go_sem]) rfl ⟨u, x, _, os, rfl, HO9.out, by rw [← HN.out]; omega, HD9.out.2.1, HD9.out.2.2⟩
  · clear HDS
    go_upto_region 3 with fail
    have CC := hide (l15Copy_walk u x a n c os ((w.alloc (.cells #[.int .i64 u, .int .i64 x, .slice a n c] 29)).alloc (.cells #[.int .i64 0, .int .i64 0, .slice none 0 0] 29)) HN.out.symm HA0.out (by omega))
    go_wp2_with fail
    clear k0 k1 k2 r0 r1 r2 rf HA0 HO0
    refine CC.out.mono ?_
    rintro e w1 ⟨v, rfl, hrow, hb1⟩
    have hsz : ((w.alloc (.cells #[.int .i64 u, .int .i64 x, .slice a n c] 29)).alloc (.cells #[.int .i64 0, .int .i64 0, .slice none 0 0] 29)).heap.size = w.heap.size + 2 := by rw [World.size_alloc, World.size_alloc]
    obtain ⟨r, nz, rfl, hBr, hrl⟩ := hrow.some (Nat.pos_of_ne_zero h0)
    have HM1 : Hid (BnM w w1 g len a0 cap0 u x (.slice a n c) n (w.heap.size + 4) os → True) := hide (fun _ => trivial)
    have HD1 := hide (HD0.out.next hb1); have HX1 := hide (HX0.out.next hb1); have HR1 := hide (HR0.out.next hb1)
    rw [hsz] at hrow hBr
    have hw1 := hb1.size
    rw [hsz] at hw1
    have HROW := hide hrow
    clear CC HM1 hrow hb1 HD0 HX0 HR0 HB2 hsz kf
    have k0 := HX1.out.cell 0 _ rfl; have k1 := HX1.out.cell 1 _ rfl; have k2 := HX1.out.cell 2 _ rfl; have kf := HX1.out.frozen
    have hg3 : w1.grownBy (((w1.setCell ⟨w.heap.size, 0, none⟩ (.int .i64 u)).setCell ⟨w.heap.size, 1, none⟩ (.int .i64 x)).setCell ⟨w.heap.size, 2, none⟩ (.slice (some ⟨r, 0, none⟩) n nz)) (some w.heap.size) := grown3 w1 w.heap.size _ _ _
    have HM2 : Hid (BnM w (((w1.setCell ⟨w.heap.size, 0, none⟩ (.int .i64 u)).setCell ⟨w.heap.size, 1, none⟩ (.int .i64 x)).setCell ⟨w.heap.size, 2, none⟩ (.slice (some ⟨r, 0, none⟩) n nz)) g len a0 cap0 u x (.slice (some ⟨r, 0, none⟩) n nz) n (w.heap.size + 2 + 2) os) := hide ⟨HD1.out.put hg3 (Nat.le_refl _), hv_set (hv_set (hv_set HX1.out 0 _) 1 _) 2 _, hv_gr HR1.out hg3 (by omega), row_gr HROW.out hg3 (by omega)⟩
    clear hg3 HD1 HX1 HR1 HROW
    go_wp2_with fail
    clear k0 k1 k2 kf
    generalize (((w1.setCell ⟨w.heap.size, 0, none⟩ (.int .i64 u)).setCell ⟨w.heap.size, 1, none⟩ (.int .i64 x)).setCell ⟨w.heap.size, 2, none⟩ (.slice (some ⟨r, 0, none⟩) n nz)) = W at *
    have hsb : w.heap.size + 1 < w.heap.size + 2 + 2 := by omega
    obtain ⟨BB, hBB⟩ : ∃ BB, BB = w.heap.size + 2 + 2 := ⟨_, rfl⟩
    rw [← hBB] at HM2 hsb hBr
    refine (HM2.out.1.draw (n : Int) (by omega) (by omega)).mono ?_
    rintro e V3 ⟨kk, rfl, pkk, qkk, hg3, hs3⟩
    have HM3 := hide (HM2.out.step hsb hg3 hs3)
    clear hg3 hs3 HM2
    obtain ⟨k, rfl⟩ := Int.eq_ofNat_of_zero_le pkk
    have b2 := HM3.out.2.1.cell 2 _ rfl
    go_wp2_with fail
    clear b2
    refine (HM3.out.1.draw 40 (by omega) (by omega)).mono ?_
    rintro e V4 ⟨z, rfl, pz, qz, hg4, hs4⟩
    have HM4 := hide (HM3.out.step hsb hg4 hs4)
    clear hg4 hs4 HM3
    have hk : k < os.length := by rw [← HN.out]; omega
    have hos : os.length ≤ 1048576 := by rw [← HN.out]; omega
    have HOS := hide hos
    clear hos
    have hz : z = 0 ∨ z = 1 ∨ z = 2 ∨ z = 3 ∨ z = 4 ∨ z = 5 ∨ z = 6 ∨ 7 ≤ z := by omega
    rcases hz with rfl | rfl | rfl | rfl | rfl | rfl | rfl | hz
    · skip
      have k0 := HM4.out.2.1.cell 0 _ rfl; have k1 := HM4.out.2.1.cell 1 _ rfl; have k2 := HM4.out.2.1.cell 2 _ rfl; have kf := HM4.out.2.1.frozen
      have hg5 : V4.grownBy (V4.setCell ⟨w.heap.size, 0, none⟩ (.int .i64 (u - 1))) (some w.heap.size) := gr_set (grown_reflp _ _) 0 _
      have HM5 := hide (HM4.out.bput (u' := u - 1) (x' := x) (v' := .slice (some ⟨r, 0, none⟩) n nz) hg5 (hv_set HM4.out.2.1 0 (.int .i64 (u - 1))) (row_gr HM4.out.2.2.2 hg5 (by omega)))
      clear hg5 HM4
      go_upto_region 21 with fail
      clear k0 k1 k2 kf
      generalize V4.setCell ⟨w.heap.size, 0, none⟩ (.int .i64 (u - 1)) = V5 at *
      have k0 := HM5.out.2.1.cell 0 (.int .i64 (u - 1)) rfl; have k1 := HM5.out.2.1.cell 1 (.int .i64 (x)) rfl; have k2 := HM5.out.2.1.cell 2 (.slice (some ⟨r, 0, none⟩) n nz) rfl
      have r0 := HM5.out.2.2.1.cell 0 _ rfl; have r1 := HM5.out.2.2.1.cell 1 _ rfl; have r2 := HM5.out.2.2.1.cell 2 _ rfl; have rf := HM5.out.2.2.1.frozen
      have HG := hide (fun (x0 x1 x2 : Value) => grown3 V5 (w.heap.size + 1) x0 x1 x2)
      have HRW := hide (row_own HM5.out.2.2.2 (by rw [← HN.out]))
      have HDD := hide HM5.out.1
      clear HM5
      go_wp2_with fail
      exact bodyPost_ret (v := .agg #[.int .i64 (u - 1), .int .i64 (x), .slice (some ⟨r, 0, none⟩) n nz]) (by simp [results, Try.results37, go_sem, r0, r1, r2]) rfl ⟨_, _, _, _, rfl, ownP_mono (owns_grb HRW.out (HG.out _ _ _) (by omega)) (by omega), by have := HOS.out; first | omega | (simp; done) | (simp; omega), (HDD.out.put (HG.out _ _ _) (by omega)).2.1, (HDD.out.put (HG.out _ _ _) (by omega)).2.2⟩
    · skip
      have k0 := HM4.out.2.1.cell 0 _ rfl; have k1 := HM4.out.2.1.cell 1 _ rfl; have k2 := HM4.out.2.1.cell 2 _ rfl; have kf := HM4.out.2.1.frozen
      have hg5 : V4.grownBy (V4.setCell ⟨w.heap.size, 1, none⟩ (.int .i64 (x + 1))) (some w.heap.size) := gr_set (grown_reflp _ _) 1 _
      have HM5 := hide (HM4.out.bput (u' := u) (x' := x + 1) (v' := .slice (some ⟨r, 0, none⟩) n nz) hg5 (hv_set HM4.out.2.1 1 (.int .i64 (x + 1))) (row_gr HM4.out.2.2.2 hg5 (by omega)))
      clear hg5 HM4
      go_upto_region 21 with fail
      clear k0 k1 k2 kf
      generalize V4.setCell ⟨w.heap.size, 1, none⟩ (.int .i64 (x + 1)) = V5 at *
      have k0 := HM5.out.2.1.cell 0 (.int .i64 (u)) rfl; have k1 := HM5.out.2.1.cell 1 (.int .i64 (x + 1)) rfl; have k2 := HM5.out.2.1.cell 2 (.slice (some ⟨r, 0, none⟩) n nz) rfl
      have r0 := HM5.out.2.2.1.cell 0 _ rfl; have r1 := HM5.out.2.2.1.cell 1 _ rfl; have r2 := HM5.out.2.2.1.cell 2 _ rfl; have rf := HM5.out.2.2.1.frozen
      have HG := hide (fun (x0 x1 x2 : Value) => grown3 V5 (w.heap.size + 1) x0 x1 x2)
      have HRW := hide (row_own HM5.out.2.2.2 (by rw [← HN.out]))
      have HDD := hide HM5.out.1
      clear HM5
      go_wp2_with fail
      exact bodyPost_ret (v := .agg #[.int .i64 (u), .int .i64 (x + 1), .slice (some ⟨r, 0, none⟩) n nz]) (by simp [results, Try.results37, go_sem, r0, r1, r2]) rfl ⟨_, _, _, _, rfl, ownP_mono (owns_grb HRW.out (HG.out _ _ _) (by omega)) (by omega), by have := HOS.out; first | omega | (simp; done) | (simp; omega), (HDD.out.put (HG.out _ _ _) (by omega)).2.1, (HDD.out.put (HG.out _ _ _) (by omega)).2.2⟩
    · skip
      obtain ⟨q, hq⟩ : ∃ q, q = os[k] := ⟨_, rfl⟩
      obtain ⟨x0, x1, x2, x3, x4, x5⟩ := q
      have hux2 : 0 ≤ x0 ∧ x0 < x1 ∧ x1 ≤ 1099511627776 := by have := bOK_piece HOK.out (List.getElem_mem hk); rw [← hq] at this; exact this
      have HQ := hide hq
      clear hq
      have k0 := HM4.out.2.1.cell 0 _ rfl; have k1 := HM4.out.2.1.cell 1 _ rfl; have k2 := HM4.out.2.1.cell 2 _ rfl; have kf := HM4.out.2.1.frozen
      have rw := row_frozen HM4.out.2.2.2
      have c0 := HM4.out.2.2.2.at HN.out.symm hk (j := 0) (by omega)
      rw [← HQ.out] at c0
      have c0 : V4.cell? ⟨r, k * 6, none⟩ = some (.int .i64 x0) := c0
      have HM5 := hide (HM4.out.pput hsb hBr hk (j := 0) (by omega) (.int .i64 (x0 + 1)) ⟨x0 + 1, x1, x2, x3, x4, x5⟩ (by rw [← HQ.out]; rfl))
      go_upto_region 11 with fail
      go_region
      go_upto_region 21 with fail
      skip
      clear k0 k1 k2 kf rw c0 HM4
      have HM5d : Hid (BnM w (V4.setCell ⟨r, k * 6, none⟩ (.int .i64 (x0 + 1))).drew g len a0 cap0 u x (.slice (some ⟨r, 0, none⟩) n nz) n BB (os.set k ⟨x0 + 1, x1, x2, x3, x4, x5⟩)) := hide (HM5.out.next (Below.refl _ _).drew)
      clear HM5
      generalize (V4.setCell ⟨r, k * 6, none⟩ (.int .i64 (x0 + 1))).drew = V5 at *
      have HM5 := HM5d
      clear HM5d
      have k0 := HM5.out.2.1.cell 0 (.int .i64 (u)) rfl; have k1 := HM5.out.2.1.cell 1 (.int .i64 (x)) rfl; have k2 := HM5.out.2.1.cell 2 (.slice (some ⟨r, 0, none⟩) n nz) rfl
      have r0 := HM5.out.2.2.1.cell 0 _ rfl; have r1 := HM5.out.2.2.1.cell 1 _ rfl; have r2 := HM5.out.2.2.1.cell 2 _ rfl; have rf := HM5.out.2.2.1.frozen
      have HG := hide (fun (x0 x1 x2 : Value) => grown3 V5 (w.heap.size + 1) x0 x1 x2)
      have HRW := hide (row_own HM5.out.2.2.2 (by rw [List.length_set]; exact HN.out.symm))
      have HDD := hide HM5.out.1
      clear HM5
      go_wp2_with fail
      exact bodyPost_ret (v := .agg #[.int .i64 (u), .int .i64 (x), .slice (some ⟨r, 0, none⟩) n nz]) (by simp [results, Try.results37, go_sem, r0, r1, r2]) rfl ⟨_, _, _, _, rfl, ownP_mono (owns_grb HRW.out (HG.out _ _ _) (by omega)) (by omega), by have := HOS.out; first | omega | (simp; done) | (simp; omega), (HDD.out.put (HG.out _ _ _) (by omega)).2.1, (HDD.out.put (HG.out _ _ _) (by omega)).2.2⟩
    · skip
      obtain ⟨q, hq⟩ : ∃ q, q = os[k] := ⟨_, rfl⟩
      obtain ⟨x0, x1, x2, x3, x4, x5⟩ := q
      have hux2 : 0 ≤ x0 ∧ x0 < x1 ∧ x1 ≤ 1099511627776 := by have := bOK_piece HOK.out (List.getElem_mem hk); rw [← hq] at this; exact this
      have HQ := hide hq
      clear hq
      have k0 := HM4.out.2.1.cell 0 _ rfl; have k1 := HM4.out.2.1.cell 1 _ rfl; have k2 := HM4.out.2.1.cell 2 _ rfl; have kf := HM4.out.2.1.frozen
      have rw := row_frozen HM4.out.2.2.2
      have c3 := HM4.out.2.2.2.at HN.out.symm hk (j := 3) (by omega)
      rw [← HQ.out] at c3
      have HM5 := hide (HM4.out.pput hsb hBr hk (j := 3) (by omega) (.int .i64 0) ⟨x0, x1, x2, 0, x4, x5⟩ (by rw [← HQ.out]; rfl))
      go_upto_region 21 with fail
      skip
      clear k0 k1 k2 kf rw c3 HM4
      generalize (V4.setCell ⟨r, k * 6 + 3, none⟩ (.int .i64 0)) = V5 at *
      have k0 := HM5.out.2.1.cell 0 (.int .i64 (u)) rfl; have k1 := HM5.out.2.1.cell 1 (.int .i64 (x)) rfl; have k2 := HM5.out.2.1.cell 2 (.slice (some ⟨r, 0, none⟩) n nz) rfl
      have r0 := HM5.out.2.2.1.cell 0 _ rfl; have r1 := HM5.out.2.2.1.cell 1 _ rfl; have r2 := HM5.out.2.2.1.cell 2 _ rfl; have rf := HM5.out.2.2.1.frozen
      have HG := hide (fun (x0 x1 x2 : Value) => grown3 V5 (w.heap.size + 1) x0 x1 x2)
      have HRW := hide (row_own HM5.out.2.2.2 (by rw [List.length_set]; exact HN.out.symm))
      have HDD := hide HM5.out.1
      clear HM5
      go_wp2_with fail
      exact bodyPost_ret (v := .agg #[.int .i64 (u), .int .i64 (x), .slice (some ⟨r, 0, none⟩) n nz]) (by simp [results, Try.results37, go_sem, r0, r1, r2]) rfl ⟨_, _, _, _, rfl, ownP_mono (owns_grb HRW.out (HG.out _ _ _) (by omega)) (by omega), by have := HOS.out; first | omega | (simp; done) | (simp; omega), (HDD.out.put (HG.out _ _ _) (by omega)).2.1, (HDD.out.put (HG.out _ _ _) (by omega)).2.2⟩
    · skip
      obtain ⟨q, hq⟩ : ∃ q, q = os[k] := ⟨_, rfl⟩
      obtain ⟨x0, x1, x2, x3, x4, x5⟩ := q
      have hux2 : 0 ≤ x0 ∧ x0 < x1 ∧ x1 ≤ 1099511627776 := by have := bOK_piece HOK.out (List.getElem_mem hk); rw [← hq] at this; exact this
      have HQ := hide hq
      clear hq
      have k0 := HM4.out.2.1.cell 0 _ rfl; have k1 := HM4.out.2.1.cell 1 _ rfl; have k2 := HM4.out.2.1.cell 2 _ rfl; have kf := HM4.out.2.1.frozen
      have rw := row_frozen HM4.out.2.2.2
      have c4 := HM4.out.2.2.2.at HN.out.symm hk (j := 4) (by omega)
      rw [← HQ.out] at c4
      have HM5 := hide (HM4.out.pput hsb hBr hk (j := 4) (by omega) (.bool true) ⟨x0, x1, x2, x3, true, x5⟩ (by rw [← HQ.out]; rfl))
      have HM6 := hide (HM5.out.pput hsb hBr (by rw [List.length_set]; exact hk) (j := 5) (by omega) (.bool true) ⟨x0, x1, x2, x3, true, true⟩ (by rw [List.getElem_set_self]; rfl))
      have c5 := HM5.out.2.2.2.at (by rw [List.length_set]; exact HN.out.symm) (by rw [List.length_set]; exact hk) (j := 5) (by omega)
      rw [List.getElem_set_self] at c5
      have d0 := HM5.out.2.1.cell 2 _ rfl; have rw2 := row_frozen HM5.out.2.2.2
      go_upto_region 21 with fail
      skip
      clear k0 k1 k2 kf rw c4 c5 d0 rw2 HM4 HM5
      generalize ((V4.setCell ⟨r, k * 6 + 4, none⟩ (.bool true)).setCell ⟨r, k * 6 + 5, none⟩ (.bool true)) = V6 at *
      have k0 := HM6.out.2.1.cell 0 (.int .i64 (u)) rfl; have k1 := HM6.out.2.1.cell 1 (.int .i64 (x)) rfl; have k2 := HM6.out.2.1.cell 2 (.slice (some ⟨r, 0, none⟩) n nz) rfl
      have r0 := HM6.out.2.2.1.cell 0 _ rfl; have r1 := HM6.out.2.2.1.cell 1 _ rfl; have r2 := HM6.out.2.2.1.cell 2 _ rfl; have rf := HM6.out.2.2.1.frozen
      have HG := hide (fun (x0 x1 x2 : Value) => grown3 V6 (w.heap.size + 1) x0 x1 x2)
      have HRW := hide (row_own HM6.out.2.2.2 (by rw [List.length_set, List.length_set]; exact HN.out.symm))
      have HDD := hide HM6.out.1
      clear HM6
      go_wp2_with fail
      exact bodyPost_ret (v := .agg #[.int .i64 (u), .int .i64 (x), .slice (some ⟨r, 0, none⟩) n nz]) (by simp [results, Try.results37, go_sem, r0, r1, r2]) rfl ⟨_, _, _, _, rfl, ownP_mono (owns_grb HRW.out (HG.out _ _ _) (by omega)) (by omega), by have := HOS.out; first | omega | (simp; done) | (simp; omega), (HDD.out.put (HG.out _ _ _) (by omega)).2.1, (HDD.out.put (HG.out _ _ _) (by omega)).2.2⟩
    · skip
      obtain ⟨q, hq⟩ : ∃ q, q = os[k] := ⟨_, rfl⟩
      obtain ⟨x0, x1, x2, x3, x4, x5⟩ := q
      have hux2 : 0 ≤ x0 ∧ x0 < x1 ∧ x1 ≤ 1099511627776 := by have := bOK_piece HOK.out (List.getElem_mem hk); rw [← hq] at this; exact this
      have HQ := hide hq
      clear hq
      have k0 := HM4.out.2.1.cell 0 _ rfl; have k1 := HM4.out.2.1.cell 1 _ rfl; have k2 := HM4.out.2.1.cell 2 _ rfl; have kf := HM4.out.2.1.frozen
      have rw := row_frozen HM4.out.2.2.2
      have c2 := HM4.out.2.2.2.at HN.out.symm hk (j := 2) (by omega)
      rw [← HQ.out] at c2
      have HM5 := hide (HM4.out.pput hsb hBr hk (j := 2) (by omega) (.int .i64 (-1)) ⟨x0, x1, -1, x3, x4, x5⟩ (by rw [← HQ.out]; rfl))
      go_upto_region 21 with fail
      skip
      clear k0 k1 k2 kf rw c2 HM4
      generalize (V4.setCell ⟨r, k * 6 + 2, none⟩ (.int .i64 (-1))) = V5 at *
      have k0 := HM5.out.2.1.cell 0 (.int .i64 (u)) rfl; have k1 := HM5.out.2.1.cell 1 (.int .i64 (x)) rfl; have k2 := HM5.out.2.1.cell 2 (.slice (some ⟨r, 0, none⟩) n nz) rfl
      have r0 := HM5.out.2.2.1.cell 0 _ rfl; have r1 := HM5.out.2.2.1.cell 1 _ rfl; have r2 := HM5.out.2.2.1.cell 2 _ rfl; have rf := HM5.out.2.2.1.frozen
      have HG := hide (fun (x0 x1 x2 : Value) => grown3 V5 (w.heap.size + 1) x0 x1 x2)
      have HRW := hide (row_own HM5.out.2.2.2 (by rw [List.length_set]; exact HN.out.symm))
      have HDD := hide HM5.out.1
      clear HM5
      go_wp2_with fail
      exact bodyPost_ret (v := .agg #[.int .i64 (u), .int .i64 (x), .slice (some ⟨r, 0, none⟩) n nz]) (by simp [results, Try.results37, go_sem, r0, r1, r2]) rfl ⟨_, _, _, _, rfl, ownP_mono (owns_grb HRW.out (HG.out _ _ _) (by omega)) (by omega), by have := HOS.out; first | omega | (simp; done) | (simp; omega), (HDD.out.put (HG.out _ _ _) (by omega)).2.1, (HDD.out.put (HG.out _ _ _) (by omega)).2.2⟩
    · skip
      have k0 := HM4.out.2.1.cell 0 _ rfl; have k1 := HM4.out.2.1.cell 1 _ rfl; have k2 := HM4.out.2.1.cell 2 _ rfl; have kf := HM4.out.2.1.frozen
      have hg5 : V4.grownBy (V4.setCell ⟨w.heap.size, 2, none⟩ (.slice none 0 0)) (some w.heap.size) := gr_set (grown_reflp _ _) 2 _
      have HM5 := hide (HM4.out.bput (u' := u) (x' := x) (v' := .slice none 0 0) hg5 (hv_set HM4.out.2.1 2 (.slice none 0 0)) (show RowP _ BB (.slice none 0 0) 0 [] from ⟨rfl, .inl ⟨rfl, rfl⟩⟩))
      clear hg5 HM4
      go_upto_region 21 with fail
      clear k0 k1 k2 kf
      generalize V4.setCell ⟨w.heap.size, 2, none⟩ (.slice none 0 0) = V5 at *
      have k0 := HM5.out.2.1.cell 0 (.int .i64 (u)) rfl; have k1 := HM5.out.2.1.cell 1 (.int .i64 (x)) rfl; have k2 := HM5.out.2.1.cell 2 (.slice none 0 0) rfl
      have r0 := HM5.out.2.2.1.cell 0 _ rfl; have r1 := HM5.out.2.2.1.cell 1 _ rfl; have r2 := HM5.out.2.2.1.cell 2 _ rfl; have rf := HM5.out.2.2.1.frozen
      have HG := hide (fun (x0 x1 x2 : Value) => grown3 V5 (w.heap.size + 1) x0 x1 x2)
      have HRW := hide (row_own HM5.out.2.2.2 (rfl))
      have HDD := hide HM5.out.1
      clear HM5
      go_wp2_with fail
      exact bodyPost_ret (v := .agg #[.int .i64 (u), .int .i64 (x), .slice none 0 0]) (by simp [results, Try.results37, go_sem, r0, r1, r2]) rfl ⟨_, _, _, _, rfl, ownP_mono (owns_grb HRW.out (HG.out _ _ _) (by omega)) (by omega), by have := HOS.out; first | omega | (simp; done) | (simp; omega), (HDD.out.put (HG.out _ _ _) (by omega)).2.1, (HDD.out.put (HG.out _ _ _) (by omega)).2.2⟩
    · skip
      go_upto_region 21 with fail
      have k0 := HM4.out.2.1.cell 0 (.int .i64 (u)) rfl; have k1 := HM4.out.2.1.cell 1 (.int .i64 (x)) rfl; have k2 := HM4.out.2.1.cell 2 (.slice (some ⟨r, 0, none⟩) n nz) rfl
      have r0 := HM4.out.2.2.1.cell 0 _ rfl; have r1 := HM4.out.2.2.1.cell 1 _ rfl; have r2 := HM4.out.2.2.1.cell 2 _ rfl; have rf := HM4.out.2.2.1.frozen
      have HG := hide (fun (x0 x1 x2 : Value) => grown3 V4 (w.heap.size + 1) x0 x1 x2)
      have HRW := hide (row_own HM4.out.2.2.2 (by rw [← HN.out]))
      have HDD := hide HM4.out.1
      clear HM4
      go_wp2_with fail
      exact bodyPost_ret (v := .agg #[.int .i64 (u), .int .i64 (x), .slice (some ⟨r, 0, none⟩) n nz]) (by simp [results, Try.results37, go_sem, r0, r1, r2]) rfl ⟨_, _, _, _, rfl, ownP_mono (owns_grb HRW.out (HG.out _ _ _) (by omega)) (by omega), by have := HOS.out; first | omega | (simp; done) | (simp; omega), (HDD.out.put (HG.out _ _ _) (by omega)).2.1, (HDD.out.put (HG.out _ _ _) (by omega)).2.2⟩
set_option maxHeartbeats 4000000 in
theorem l15Any_walk (g len : Nat) (a0 : Option Addr) (cap0 : Nat) (w : World) (hS : Sr0 w g len a0 cap0) (hm : len ≤ 2097152) :
    Calls Try.prog 19 #[.pointer (some ⟨g, 0, none⟩), .slice a0 len cap0] w fun e w' => BnP w w.heap.size g len a0 cap0 e w' := by
  have hgl := hS.lt
  have hal := (Below.refl w.heap.size w).alloc (Nat.le_refl _) (.cells #[.int .i64 0, .int .i64 0, .slice none 0 0] 29)
  have HD0 := hide ((DS.start hS).next hal)
  have HR0 : Hid (HoldV (w.alloc (.cells #[.int .i64 0, .int .i64 0, .slice none 0 0] 29)) w.heap.size #[.int .i64 0, .int .i64 0, .slice none 0 0] 29) := hide (hv_new w _ _)
  have hsz : (w.alloc (.cells #[.int .i64 0, .int .i64 0, .slice none 0 0] 29)).heap.size = w.heap.size + 1 := World.size_alloc _ _
  clear hal hS
  go_enter Try.func19, Try.ntmps19
  go_wp2_with fail
  generalize w.alloc (.cells #[.int .i64 0, .int .i64 0, .slice none 0 0] 29) = V0 at *
  refine (l15Draw_walk g len a0 cap0 _ V0 HD0.out.sr0 (by omega) (by omega)).mono ?_
  rintro e V1 ⟨b, rfl, ⟨u, x, a, c, os, rfl, ho, hok⟩, hg1, hs1⟩
  have HD1 := hide (HD0.out.step hg1 hs1)
  have HR1 := hide (hv_gr HR0.out hg1 (by omega))
  have hs1' := hg1.size
  have HO1 := hide ho
  have HOK := hide hok
  clear ho hok hg1 hs1 HD0 HR0
  go_wp2_with fail
  refine (l15Bend_walk g len a0 cap0 u x a c V0.heap.size os V1 HD1.out.sr0 HO1.out hs1' (by omega) HOK.out).mono ?_
  rintro e V2 ⟨u2, x2, v2, os2, rfl, ho2, hl2, hg2, hs2⟩
  have HD2 := hide (HD1.out.step hg2 hs2)
  have HR2 := hide (hv_gr HR1.out hg2 (by omega))
  obtain ⟨a2, c2, rfl, _, _, _⟩ := arrP_own ho2
  have HO2 := hide ho2
  clear ho2 hg2 hs2 HD1 HR1 HO1
  have r0 := HR2.out.cell 0 _ rfl; have r1 := HR2.out.cell 1 _ rfl; have r2 := HR2.out.cell 2 _ rfl; have rf := HR2.out.frozen
  have HG := hide (fun (x0 x1 x2 : Value) => grown3 V2 w.heap.size x0 x1 x2)
  go_wp2_with fail
  exact bodyPost_ret (v := .agg #[.int .i64 u2, .int .i64 x2, .slice a2 os2.length c2]) (by simp [results, Try.results19, go_sem, r0, r1, r2]) rfl ⟨_, _, _, _, rfl, ownP_mono (owns_grb HO2.out (HG.out _ _ _) (by omega)) (by omega), hl2, (HD2.out.put (HG.out _ _ _) (Nat.le_refl _)).2.1, (HD2.out.put (HG.out _ _ _) (Nat.le_refl _)).2.2⟩
set_option maxHeartbeats 4000000 in
theorem drawLose_walk (a0 : Option Addr) (len cap0 : Nat) (ys : List Int) (w : World) (hn : ys.length = len) (ha : Arr w a0 ys) (hm : len ≤ 2097152) :
    Calls Try.prog 5 #[.slice a0 len cap0] w fun e w' => ∃ (u x : Int) (v : Value) (os : List PieceM), e = .returned (.agg #[.int .i64 u, .int .i64 x, v]) ∧ OwnP w' w.heap.size v os ∧ os.length ≤ 1048576 ∧ Below w.heap.size w w' := by
  have hal := (Below.refl w.heap.size w).alloc (Nat.le_refl _) (.cells #[.int .i64 0, .int .i64 0, .slice none 0 0] 29)
  have HR0 : Hid (HoldV (w.alloc (.cells #[.int .i64 0, .int .i64 0, .slice none 0 0] 29)) w.heap.size #[.int .i64 0, .int .i64 0, .slice none 0 0] 29) := hide (hv_new w _ _)
  have HB0 := hide hal
  have HA := hide ha
  have HN := hide hn
  clear hal ha hn
  go_enter Try.func5, Try.ntmps5
  go_wp2_with fail
  generalize w.alloc (.cells #[.int .i64 0, .int .i64 0, .slice none 0 0] 29) = V0 at *
  have hp0 := HR0.out.lt
  refine (l01Begin_walk a0 len cap0 ys V0 HN.out (HA.out.below HB0.out (Nat.le_refl _)) hm).mono ?_
  rintro e V1 ⟨st, rfl, st0, st1, hb1⟩
  have HB1 : Hid (Below w.heap.size w V1) := hide (HB0.out.trans (hb1.mono HB0.out.size))
  have HR1 := hide (HR0.out.next hb1)
  have hp1 := HR1.out.lt
  have hal : Below V1.heap.size V1 (V1.alloc (.cells #[.slice a0 len cap0, .int .i64 0, .int .u64 st] 54)) := (Below.refl _ _).alloc (Nat.le_refl _) _
  have HS2 : Hid (Sr0 (V1.alloc (.cells #[.slice a0 len cap0, .int .i64 0, .int .u64 st] 54)) V1.heap.size len a0 cap0) := hide ⟨ys, HN.out, HA.out.below (HB1.out.trans (hal.mono HB1.out.size)) (Nat.le_refl _), ⟨0, st, heap_alloc_new _ _, by omega, by omega, st0, st1⟩, hm⟩
  have HB2 : Hid (Below w.heap.size w (V1.alloc (.cells #[.slice a0 len cap0, .int .i64 0, .int .u64 st] 54))) := hide (HB1.out.trans (hal.mono HB1.out.size))
  have HR2 := hide (HR1.out.next hal)
  have hsz : (V1.alloc (.cells #[.slice a0 len cap0, .int .i64 0, .int .u64 st] 54)).heap.size = V1.heap.size + 1 := World.size_alloc _ _
  clear hal hb1 HB0 HB1 HR0 HR1
  go_wp2_with fail
  generalize V1.alloc (.cells #[.slice a0 len cap0, .int .i64 0, .int .u64 st] 54) = V2 at *
  generalize V1.heap.size = g at *
  refine (l15Any_walk g len a0 cap0 V2 HS2.out hm).mono ?_
  rintro e V3 ⟨u2, x2, v2, os2, rfl, ho2, hl2, hg2, hs2⟩
  obtain ⟨a2, c2, rfl, _, _, _⟩ := arrP_own ho2
  have HO2 := hide ho2
  have HR3 := hide (hv_gr HR2.out hg2 (by omega))
  have HB3 : Hid (Below w.heap.size w V3) := hide (below_gr HB2.out hg2 HB2.out.size (by omega))
  clear ho2 hg2 hs2 HR2 HB2
  have r0 := HR3.out.cell 0 _ rfl; have r1 := HR3.out.cell 1 _ rfl; have r2 := HR3.out.cell 2 _ rfl; have rf := HR3.out.frozen
  have HG := hide (fun (x0 x1 x2 : Value) => grown3 V3 w.heap.size x0 x1 x2)
  go_wp2_with fail
  exact bodyPost_ret (v := .agg #[.int .i64 u2, .int .i64 x2, .slice a2 os2.length c2]) (by simp [results, Try.results5, go_sem, r0, r1, r2]) rfl ⟨_, _, _, _, rfl, ownP_mono (owns_grb HO2.out (HG.out _ _ _) (by omega)) (by omega), hl2, below_gr HB3.out (HG.out _ _ _) HB3.out.size (Nat.le_refl _)⟩
set_option maxRecDepth 100000
set_option maxHeartbeats 1000000 in
theorem lwNextA_more (g : Nat) (n : Int) (zs : List Int) (w : World) (a : Option Addr) (cap k : Nat) (st : Int) (hb : w.heap[g]? = some (.cells #[.slice a zs.length cap, .int .i64 (k : Int), .int .u64 st] 25)) (harr : Arr w a zs)
    (hk : k < zs.length) (hs0 : 0 ≤ st) (hs1 : st ≤ 18446744073709551615) (hn : 0 < n) (hn1 : n ≤ 9223372036854775807) (hl : zs.length ≤ 2097152) :
    Calls Try.prog 9 #[.pointer (some ⟨g, 0, none⟩), .int .i64 n] w fun e w' => ∃ r : Int, e = .returned (.int .i64 r) ∧ 0 ≤ r ∧ r < n ∧ w.grownBy w' (some g) ∧ SrcA w' g 25 zs.length a cap := by
  obtain ⟨c0, c1, c2, hf⟩ := src_cells hb
  have HB := hide hb
  have HA := hide harr
  clear hb harr
  generalize hlen : zs.length = len at *
  have HL := hide hlen
  clear hlen
  go_enter Try.func9, Try.ntmps9
  go_wp2_with fail
  have hs2 := wrap_u64_bd (IntKind.u64.wrap (st * 6364136223846793005) + 1442695040888963407)
  generalize IntKind.u64.wrap (IntKind.u64.wrap (st * 6364136223846793005) + 1442695040888963407) = s1 at *
  obtain ⟨hb1, hg1⟩ := src_set (j := 2) (.int .u64 s1) HB.out
  have hb1' : (w.setCell ⟨g, 2, none⟩ (.int .u64 s1)).heap[g]? = some (.cells #[.slice a len cap, .int .i64 (k : Int), .int .u64 s1] 25) := hb1
  have HA1 := hide (HA.out.grown hg1 HB.out (by simp) (by simp) (by simp))
  clear hb1 c0 c1 c2 hf
  generalize w.setCell ⟨g, 2, none⟩ (.int .u64 s1) = W1 at *
  obtain ⟨c0, c1, c2, hf⟩ := src_cells hb1'
  have HB1 := hide hb1'
  clear hb1'
  go_quiet (fail)
  revert nq
  intro nq1
  go_wp2_with fail
  obtain ⟨b, off, rfl, hbs, hc⟩ := HA1.out.2 k (by rw [HL.out]; exact hk)
  go_quiet (fail)
  go_wp2_with fail
  go_ret
  obtain ⟨hb2, hg2⟩ := src_set (w := W1.drewN (nq1 + nq)) (j := 1) (.int .i64 ((k : Int) + 1)) HB1.out
  have hr := rem_bd (xor_u64_bd (s1 / 8589934592) (IntKind.u64.wrap (zs[k]?.getD 0))).1 hn hn1
  have hG := grown_trans (grown_drewN hg1 (nq1 + nq)) hg2
  refine ⟨_, rfl, hr.1, hr.2, hG, (k : Int) + 1, s1, hb2, by omega, by omega, hs2.1, hs2.2⟩
set_option maxHeartbeats 1000000 in
theorem lwNextA_end (g : Nat) (n : Int) (zs : List Int) (w : World) (a : Option Addr) (cap k : Nat) (st : Int) (hb : w.heap[g]? = some (.cells #[.slice a zs.length cap, .int .i64 (k : Int), .int .u64 st] 25)) (harr : Arr w a zs)
    (hk : k = zs.length) (hs0 : 0 ≤ st) (hs1 : st ≤ 18446744073709551615) (hn : 0 < n) (hn1 : n ≤ 9223372036854775807) (hl : zs.length ≤ 2097152) :
    Calls Try.prog 9 #[.pointer (some ⟨g, 0, none⟩), .int .i64 n] w fun e w' => ∃ r : Int, e = .returned (.int .i64 r) ∧ 0 ≤ r ∧ r < n ∧ w.grownBy w' (some g) ∧ SrcA w' g 25 zs.length a cap := by
  obtain ⟨c0, c1, c2, hf⟩ := src_cells hb
  have HB := hide hb
  have HA := hide harr
  clear hb harr
  have hkl : ¬ (k : Int) < (zs.length : Int) := by omega
  generalize hlen : zs.length = len at *
  have HL := hide hlen
  clear hlen
  have HK := hide hk
  clear hk
  go_enter Try.func9, Try.ntmps9
  go_wp2_with fail
  have hs2 := wrap_u64_bd (IntKind.u64.wrap (st * 6364136223846793005) + 1442695040888963407)
  generalize IntKind.u64.wrap (IntKind.u64.wrap (st * 6364136223846793005) + 1442695040888963407) = s1 at *
  obtain ⟨hb1, hg1⟩ := src_set (j := 2) (.int .u64 s1) HB.out
  have hb1' : (w.setCell ⟨g, 2, none⟩ (.int .u64 s1)).heap[g]? = some (.cells #[.slice a len cap, .int .i64 (k : Int), .int .u64 s1] 25) := hb1
  have HA1 := hide (HA.out.grown hg1 HB.out (by simp) (by simp) (by simp))
  clear hb1 c0 c1 c2 hf
  generalize w.setCell ⟨g, 2, none⟩ (.int .u64 s1) = W1 at *
  obtain ⟨c0, c1, c2, hf⟩ := src_cells hb1'
  have HB1 := hide hb1'
  clear hb1'
  go_quiet (fail)
  go_wp2_with fail
  go_ret
  have hr := rem_bd' (x := s1 / 8589934592) hn hn1
  refine ⟨_, rfl, hr.1, hr.2, grown_drewN hg1 nq, (k : Int), s1, HB1.out, by omega, by have h1 := HK.out; omega, hs2.1, hs2.2⟩
theorem lwNextA_walk (g : Nat) (n : Int) (zs : List Int) (w : World) (a : Option Addr) (cap : Nat) (harr : Arr w a zs) (h : SrcA w g 25 zs.length a cap) (hn : 0 < n) (hn1 : n ≤ 9223372036854775807) (hl : zs.length ≤ 2097152) :
    Calls Try.prog 9 #[.pointer (some ⟨g, 0, none⟩), .int .i64 n] w fun e w' => ∃ r : Int, e = .returned (.int .i64 r) ∧ 0 ≤ r ∧ r < n ∧ w.grownBy w' (some g) ∧ SrcA w' g 25 zs.length a cap := by
  obtain ⟨pos, st, hb, hp0, hp1, hs0, hs1⟩ := h
  obtain ⟨k, rfl⟩ := Int.eq_ofNat_of_zero_le hp0
  by_cases hk : k < zs.length
  · exact lwNextA_more g n zs w a cap k st hb harr hk hs0 hs1 hn hn1 hl
  · exact lwNextA_end g n zs w a cap k st hb harr (by omega) hs0 hs1 hn hn1 hl

set_option maxHeartbeats 1000000 in
theorem lwBegin_walk (a : Option Addr) (n cap : Nat) (salt : Int) (zs : List Int) (w : World) (hn : zs.length = n) (ha : Arr w a zs) (hs0 : 0 ≤ salt) (hs1 : salt ≤ 1000) (hm : n ≤ 2097152) :
    Calls Try.prog 4 #[.slice a n cap, .int .u64 salt] w fun e w' => ∃ st : Int, e = .returned (.agg #[.slice a n cap, .int .i64 0, .int .u64 st]) ∧ 0 ≤ st ∧ st ≤ 18446744073709551615 ∧ Below w.heap.size w w' := by
  have HN := hide hn
  have HA := hide ha
  clear hn ha
  go_enter Try.func4, Try.ntmps4
  go_wp2_with fail
  have hmade := hide (made_start w 25 a n cap (88172645463325252 + salt * 977) (by omega) (by omega))
  generalize (w.alloc (.cells #[.slice none 0 0, .int .i64 0, .int .u64 0] 25)).alloc (.cells #[.slice a n cap, .int .i64 0, .int .u64 (88172645463325252 + salt * 977)] 25) = W at *
  go_loopw [6] (fun t w2 => ∃ k : Nat, k ≤ n ∧ t = .int .i64 k ∧ Hid (Made w w2 25 a n cap)) (fun t _ => n - (intOf t).toNat)
  case atStart => exact ⟨0, Nat.zero_le _, rfl, hmade⟩
  case round =>
    obtain ⟨k, hk, rfl, HM⟩ := hrel
    obtain ⟨hb, hz, hr, st, hs0, hs1, hg⟩ := HM.out
    by_cases hlt : k < n
    · obtain ⟨b, off, rfl, hbs, hc0⟩ := HA.out.2 k (by rw [HN.out]; exact hlt)
      have hc : wr.cell? ⟨b, off + k, none⟩ = some (.int .u8 (zs.getD k 0)) := by rw [hb.cell (p := ⟨b, off + k, none⟩) hbs]; exact hc0
      clear hc0
      have hz := getD_bd HA.out.1 k
      generalize zs.getD k 0 = z at *
      obtain ⟨c0, c1, c2, hf⟩ := src_cells hg
      clear hr hg hmade c0 c1
      have hx := xor_u64_bd st z
      go_wp2
      go_region
      go_wp2
      have hw := wrap_u64_bd (bits .xor .u64 st z * 1099511628211)
      exact ⟨⟨k + 1, by omega, by go_num, hide (made_set HM.out _ hw.1 hw.2)⟩, by simp [intOf]; omega⟩
    · obtain ⟨c0, c1, c2, hf⟩ := src_cells hg
      obtain ⟨d0, d1, d2, hf2⟩ := src_cells hr
      clear hr hg hmade
      go_wp2
      exact bodyPost_ret (v := .agg #[.slice a n cap, .int .i64 0, .int .u64 st]) (by simp [results, Try.results4, go_sem, d0, d1, d2]) rfl ⟨st, rfl, hs0, hs1, ((hb.setCell (Nat.le_refl _) _).setCell (Nat.le_refl _) _).setCell (Nat.le_refl _) _⟩

/-- What the walk is told of a slice of integers that came in: nil, or a row of 'cap' cells, the first 'len' of them its elements. -/
def IsRow (k : IntKind) (w : World) (a : Option Addr) (len cap : Nat) (zs : List Int) : Prop :=
  (a = none ∧ len = 0 ∧ cap = 0 ∧ zs = []) ∨
  ∃ x, a = some x ∧ len ≤ cap ∧ cap ≤ maxLen ∧ zs.length = cap ∧ (∀ i, i < zs.length → w.cell? (x.add i) = some (.int k (zs.getD i 0))) ∧ ∀ n ∈ zs, (Lit.int k n).wf = true
theorem cell_lt {w : World} {b o : Nat} {v : Value} (h : w.cell? ⟨b, o, none⟩ = some v) : b < w.heap.size := by
  by_cases hb : b < w.heap.size
  · exact hb
  · exfalso
    unfold World.cell? at h
    simp [Array.getElem?_eq_none (Nat.le_of_not_lt hb)] at h
theorem IsRow.arr {w : World} {a : Option Addr} {len cap : Nat} {zs : List Int} (h : IsRow .u8 w a len cap zs) : ∃ ys : List Int, ys.length = len ∧ Arr w a ys := by
  rcases h with ⟨rfl, rfl, rfl, rfl⟩ | ⟨x, rfl, hl, hm, hz, hcell, hwz⟩
  · exact ⟨[], rfl, by simp, fun j hj => by simp at hj⟩
  · refine ⟨zs.take len, by simp; omega, ?_, ?_⟩
    · intro z hz'
      have := hwz z (List.mem_of_mem_take hz')
      simpa [Lit.wf, IntKind.min, IntKind.max, IntKind.signed, IntKind.bits] using this
    · intro j hj
      have hj' : j < len := by simp at hj; omega
      obtain ⟨b, off, rfl, hc⟩ := ints_at hcell (by omega)
      have h1 := hc j (by omega)
      refine ⟨b, off, rfl, cell_lt h1, ?_⟩
      rw [h1, List.getD_eq_getElem?_getD, List.getD_eq_getElem?_getD, List.getElem?_take, if_pos hj']

theorem HoldV.putb {w : World} {H T : Nat} {vs : Array Value} (h : HoldV w H vs T) (i : Nat) (y : Value) : HoldV (w.setCell ⟨H, i, none⟩ y) H (vs.setIfInBounds i y) T := heap_setCell_same w H i _ _ y h

/-- A draw's source in block g, the world below its beginning as it was. -/
def LwS (w W : World) (g n : Nat) (a : Option Addr) (cap : Nat) : Prop := Below w.heap.size w W ∧ SrcA W g 25 n a cap ∧ w.heap.size ≤ g
theorem LwS.next {w W W' : World} {g n cap : Nat} {a : Option Addr} (h : LwS w W g n a cap) (hb : Below W.heap.size W W') : LwS w W' g n a cap := ⟨h.1.trans (hb.mono h.1.size), h.2.1.below hb (Nat.le_refl _), h.2.2⟩
theorem LwS.step {w W W' : World} {g n cap : Nat} {a : Option Addr} (h : LwS w W g n a cap) (hg : W.grownBy W' (some g)) (hs : SrcA W' g 25 n a cap) : LwS w W' g n a cap := ⟨h.1.trans (below_grown h.2.2 h.1.size hg), hs, h.2.2⟩
theorem LwS.put {w W : World} {g n cap : Nat} {a : Option Addr} (h : LwS w W g n a cap) {b i : Nat} (hb : w.heap.size ≤ b) (hg : g ≠ b) (y : Value) : LwS w (W.setCell ⟨b, i, none⟩ y) g n a cap := ⟨h.1.setCell (p := ⟨b, i, none⟩) hb _, h.2.1.set (p := ⟨b, i, none⟩) hg y, h.2.2⟩
theorem LwS.drew {w W : World} {g n cap : Nat} {a : Option Addr} (h : LwS w W g n a cap) : LwS w W.drew g n a cap := ⟨h.1.drew, h.2.1, h.2.2⟩
theorem LwS.lt {w W : World} {g n cap : Nat} {a : Option Addr} (h : LwS w W g n a cap) : g < W.heap.size := h.2.1.lt
/-- .. and a box of one's own beside it. -/
def LwB (w W : World) (g n : Nat) (a : Option Addr) (cap : Nat) (r : Nat) (vs : Array Value) (T : Nat) : Prop := LwS w W g n a cap ∧ HoldV W r vs T ∧ g ≠ r ∧ w.heap.size ≤ r
theorem LwB.next {w W W' : World} {g n cap r T : Nat} {a : Option Addr} {vs : Array Value} (h : LwB w W g n a cap r vs T) (hb : Below W.heap.size W W') : LwB w W' g n a cap r vs T := ⟨h.1.next hb, h.2.1.next hb, h.2.2⟩
theorem LwB.step {w W W' : World} {g n cap r T : Nat} {a : Option Addr} {vs : Array Value} (h : LwB w W g n a cap r vs T) (hg : W.grownBy W' (some g)) (hs : SrcA W' g 25 n a cap) : LwB w W' g n a cap r vs T :=
  ⟨h.1.step hg hs, (hg.block r h.2.1.lt (fun e => h.2.2.1 (by injection e with e; exact e.symm))).trans h.2.1, h.2.2⟩
theorem LwB.drew {w W : World} {g n cap r T : Nat} {a : Option Addr} {vs : Array Value} (h : LwB w W g n a cap r vs T) : LwB w W.drew g n a cap r vs T := ⟨h.1.drew, h.2.1, h.2.2⟩
theorem LwB.put {w W : World} {g n cap r T : Nat} {a : Option Addr} {vs : Array Value} (h : LwB w W g n a cap r vs T) (i : Nat) (y : Value) : LwB w (W.setCell ⟨r, i, none⟩ y) g n a cap r (vs.setIfInBounds i y) T := ⟨h.1.put h.2.2.2 h.2.2.1 y, h.2.1.putb i y, h.2.2⟩
theorem LwB.start {w W : World} {g n cap : Nat} {a : Option Addr} (h : LwS w W g n a cap) (vs : Array Value) (T : Nat) : LwB w (W.alloc (.cells vs T)) g n a cap W.heap.size vs T :=
  ⟨h.next ((Below.refl _ _).alloc (Nat.le_refl _) _), heap_alloc_new _ _, Nat.ne_of_lt h.lt, h.1.size⟩
theorem LwS.start {w w1 : World} {n cap : Nat} {a : Option Addr} {st : Int} (hb : Below w.heap.size w w1) (h0 : 0 ≤ st) (h1 : st ≤ 18446744073709551615) : LwS w (w1.alloc (.cells #[.slice a n cap, .int .i64 0, .int .u64 st] 25)) w1.heap.size n a cap :=
  ⟨hb.trans (((Below.refl _ _).alloc (Nat.le_refl _) _).mono hb.size), ⟨0, st, heap_alloc_new _ _, by omega, by omega, h0, h1⟩, hb.size⟩
theorem LwS.draw {w W : World} {g len cap : Nat} {a : Option Addr} {ys : List Int} (hN : ys.length = len) (hA : Arr w a ys) (hy : ys.length ≤ 2097152) (h : LwS w W g len a cap) (n : Int) (hn : 0 < n) (hn1 : n ≤ 9223372036854775807) :
    Calls Try.prog 9 #[.pointer (some ⟨g, 0, none⟩), .int .i64 n] W fun e W' => ∃ x : Int, e = .returned (.int .i64 x) ∧ 0 ≤ x ∧ x < n ∧ W.grownBy W' (some g) ∧ SrcA W' g 25 len a cap := by
  have q := lwNextA_walk g n ys W a cap (hA.below h.1 (Nat.le_refl _)) (by rw [hN]; exact h.2.1) hn hn1 hy
  rw [hN] at q
  exact q
/-- One more box is as it was where another block alone was written. -/
theorem HoldV.grown {W W' : World} {g b T : Nat} {vs : Array Value} (h : HoldV W b vs T) (hg : W.grownBy W' (some g)) (hne : g ≠ b) : HoldV W' b vs T := (hg.block b h.lt (fun e => hne (by injection e with e; exact e.symm))).trans h
end Go.Proofs.Ytlkbmdkidpfioaa
