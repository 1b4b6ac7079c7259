/-
Contracts of functions of this seat.
-/
import Derived.Test.YtcnfnimgpiaamaaDoorRows
import Derived.WalkKit
import Derived.ProofKit
import Derived.OpenShut
import Derived.Test.YtcnfnimgpiaamaaDoorRfl
import Derived.Deep.AppendLies
namespace Go.Proofs.YtcnfnimgpiaamaaDoor
open Go.ChangeShapes Go.WideShapes Go.ChangeAt Go.RowKit
set_option linter.unusedVariables false
set_option maxRecDepth 100000
theorem step_plain {P : Program} {ops : Array Oper} {o : Oper} {a : Act} {w : World} {K : Act → World → Prop} {Q : Exit → Act → World → Prop} {E : Prop} (hgd : o.guard = none) (h : Oper.wp P o a w K Q) : if Region.wanted o (yielded ops a.tmps) = true then Oper.wp P o a w K Q else E := by
  rw [if_pos (by simp [Region.wanted, hgd])]; exact h
theorem Tryd.infoSk : (Tryd.prog.info? 53).map (fun i => (i.zero, i.size, i.bytes)) = some (some (.agg #[.int .i64 0, .int .i64 0]), 2, 16) := by kernel_rfl
theorem skL_succ (v : List Int) (k : Nat) : skL v (k + 1) = skL v k ++ [tnum ((v.drop (4 * (2 * k))).take 4), tnum ((v.drop (4 * (2 * k + 1))).take 4)] := by
  unfold skL
  rw [show 2 * (k + 1) = 2 * k + 1 + 1 by omega, List.range_succ, List.range_succ]
  simp
theorem skL_len (v : List Int) (k : Nat) : (skL v k).length = 2 * k := by unfold skL; simp
theorem news_two (w : World) (f t : Int) (e : Nat) : ∀ j u, (ival [f, t])[j]? = some u → (w.alloc (.cells #[.int .i64 f, .int .i64 t] e)).cell? ((⟨w.heap.size, 0, none⟩ : Addr).add j) = some u := by
  intro j u hu
  rw [Addr.add_lit, Nat.zero_add]
  refine (cell_of_row _ w.heap.size j _ e _ (heap_alloc_new w _)).trans ?_
  simpa [ival] using hu
/-- The state between two stretches. -/
def SkS (w W : World) (vs rs : Array Value) (v : Value) (k : Nat) (L : List Int) : Prop := Below w.heap.size w W ∧ HoldV W w.heap.size vs sgT ∧ HoldV W (w.heap.size + 1) rs sgT ∧ W.ownsRow (w.heap.size + 2) 53 2 v k (ival L)
theorem row_nx {w w' : World} {B e K n : Nat} {v : Value} {xs : List Value} (h : w.ownsRow B e K v n xs) (hb : Below w.heap.size w w') : w'.ownsRow B e K v n xs := by
  refine ⟨h.1, ?_⟩
  rcases h.2 with hn | ⟨r, cap, cur, hv, hr, hc, rest⟩
  · exact .inl hn
  · exact .inr ⟨r, cap, cur, hv, hr, (hb.block r (Array.getElem?_eq_some_iff.1 hc).1).trans hc, rest⟩
theorem holdv_news {W : World} {Y T : Nat} {f t : Int} (h : HoldV W Y #[.int .i64 f, .int .i64 t] T) : ∀ j u, (ival [f, t])[j]? = some u → W.cell? ((⟨Y, 0, none⟩ : Addr).add j) = some u := by
  intro j u hu
  rw [Addr.add_lit, Nat.zero_add]
  refine (cell_of_row _ Y j _ T _ h).trans ?_
  simpa [ival] using hu
def R24 (sv : Value) (i : Nat) (W W2 : World) : Prop := if i = 17 then W.grownBy W2 sv.ownBlock else Below W.heap.size W W2
def B24 (w : World) (vs rs : Array Value) (sv : Value) (k : Nat) (L : List Int) (fl : Nat → Bool) (W : World) : Prop := (Below w.heap.size w W ∧ HoldV W w.heap.size vs sgT ∧ HoldV W (w.heap.size + 1) rs sgT ∧ ∀ g, sv.ownBlock = some g → g < W.heap.size) ∧ (fl 17 = false → W.ownsRow (w.heap.size + 2) 53 2 sv k (ival L))
theorem B24.start {w W : World} {vs rs : Array Value} {sv : Value} {k : Nat} {L : List Int} (h : SkS w W vs rs sv k L) : B24 w vs rs sv k L (fun _ => false) W.drew := ⟨⟨h.1.drew, h.2.1, h.2.2.1, fun g hg => (h.2.2.2.lt g hg).2⟩, fun _ => h.2.2.2.drew⟩
theorem B24.same {w W : World} {vs rs : Array Value} {sv : Value} {k i : Nat} {L : List Int} {fl : Nat → Bool} (h : B24 w vs rs sv k L fl W) : B24 w vs rs sv k L (fun q => if q = i then true else fl q) W := ⟨h.1, fun e => h.2 (by by_cases hq : 17 = i <;> simp [hq] at e ⊢; exact e)⟩
theorem B24.next {w W W2 : World} {vs rs : Array Value} {sv : Value} {k i : Nat} {L : List Int} {fl : Nat → Bool} (h : B24 w vs rs sv k L fl W) (hb : Below W.heap.size W W2) : B24 w vs rs sv k L (fun q => if q = i then true else fl q) W2 := ⟨⟨below_on h.1.1 hb, h.1.2.1.next hb, h.1.2.2.1.next hb, fun g hg => Nat.lt_of_lt_of_le (h.1.2.2.2 g hg) hb.size⟩, fun e => row_nx (h.2 (by by_cases hq : 17 = i <;> simp [hq] at e ⊢; exact e)) hb⟩
theorem B24.app {w W W2 : World} {vs rs : Array Value} {sv : Value} {k : Nat} {L : List Int} {fl : Nat → Bool} (h : B24 w vs rs sv k L fl W) (hg : W.grownBy W2 sv.ownBlock) (hv : ∀ g, sv.ownBlock = some g → w.heap.size + 2 ≤ g) : B24 w vs rs sv k L (fun q => if q = 17 then true else fl q) W2 := ⟨⟨h.1.1.grown hg h.1.1.size (fun g e => by have := hv g e; omega), (hg.block _ h.1.2.1.lt (fun e => by have := hv _ e.symm; omega)).trans h.1.2.1, (hg.block _ h.1.2.2.1.lt (fun e => by have := hv _ e.symm; omega)).trans h.1.2.2.1, fun g e => Nat.lt_of_lt_of_le (h.1.2.2.2 g e) hg.size⟩, fun e => by simp at e⟩
def A24k (N X k : Nat) (f t : Int) (L : List Int) (sv bv i0 i4 i8 u1 u2 : Value) : Nat → Value → World → Prop
  | 0, v, _ => v = .pointer (some ⟨X, 10, none⟩)
  | 1, v, _ => v = sv
  | 2, v, _ => v = bv
  | 3, v, _ => v = i0
  | 4, v, _ => v = i0
  | 5, v, _ => v = i4
  | 6, v, _ => v = u1
  | 7, v, _ => v = .int .i64 f
  | 8, v, _ => v = bv
  | 9, v, _ => v = i0
  | 10, v, _ => v = i4
  | 11, v, _ => v = i0
  | 12, v, _ => v = i8
  | 13, v, _ => v = u2
  | 14, v, _ => v = .int .i64 t
  | 15, v, _ => v = .agg #[.int .i64 f, .int .i64 t]
  | 16, v, W => ∃ Y, v = .slice (some ⟨Y, 0, none⟩) 1 1 ∧ HoldV W Y #[.int .i64 f, .int .i64 t] 53 ∧ ∀ g, sv.ownBlock = some g → g ≠ Y
  | 17, v, W => ∃ g c, v = .slice (some ⟨g, 0, none⟩) (k + 1) c ∧ W.ownsRow N 53 2 (.slice (some ⟨g, 0, none⟩) (k + 1) c) (k + 1) (ival (L ++ [f, t]))
  | 18, v, _ => v = .pointer (some ⟨X, 10, none⟩)
  | _, _, _ => True
theorem A24k_kept {N X k : Nat} {f t : Int} {L : List Int} {sv bv i0 i4 i8 u1 u2 : Value} : ∀ (i q : Nat) (v : Value) (W W2 : World), i ≠ q → R24 sv i W W2 → A24k N X k f t L sv bv i0 i4 i8 u1 u2 q v W → A24k N X k f t L sv bv i0 i4 i8 u1 u2 q v W2 := by
  intro i q v W W2 hne hb h
  unfold A24k at h ⊢
  split at h
  all_goals first
    | exact h
    | (obtain ⟨Y, e, hY, hn⟩ := h
       unfold R24 at hb
       split at hb
       · exact ⟨Y, e, (hb.block Y hY.lt (fun e2 => hn Y e2.symm rfl)).trans hY, hn⟩
       · exact ⟨Y, e, hY.next hb, hn⟩)
    | (obtain ⟨g, c, e, ho⟩ := h
       unfold R24 at hb
       split at hb
       · rename_i h17; exact absurd h17 hne
       · exact ⟨g, c, e, row_nx ho hb⟩)
set_option maxHeartbeats 8000000 in
theorem l11Opt_ok5 (x0 x1 x2 x3 x4 x5 x6 : Int) (x7 : Bool) (x8 : Int) (x9 : Bool) (a10 : Option Addr) (n10 c10 : Nat) (a11 : Option Addr) (n11 c11 : Nat) (a : Option Addr) (n cap : Nat) (zs : List Int) (w : World) (hn : zs.length = n) (ha : Arr w a zs) (hcap : n ≤ cap) (hk : zs.getD 0 0 = 5) (q : Nat) (hq : n = 2 + 8 * q) (hq1 : 1 ≤ q) (hq4 : q ≤ 4) :
    Calls Tryd.prog 84 #[.agg #[.int .i64 x0, .int .i64 x1, .int .i64 x2, .int .i64 x3, .int .i64 x4, .int .i64 x5, .int .i64 x6, .bool x7, .int .i64 x8, .bool x9, .slice a10 n10 c10, .slice a11 n11 c11], .slice a n cap] w fun e w' => ∃ v : Value, e = .returned (.tuple #[.agg #[.int .i64 x0, .int .i64 x1, .int .i64 x2, .int .i64 x3, .int .i64 x4, .int .i64 x5, .int .i64 x6, .bool x7, .int .i64 x8, .bool x9, v, .slice a11 n11 c11], .bool true]) ∧ OwnI w' w.heap.size 53 2 v (min 3 q) (skL (zs.drop 2) (min 3 q)) ∧ Below w.heap.size w w' := by
  obtain ⟨i, hi, hz0, hz1, hz2⟩ := info_parts Tryd.infoSk
  obtain ⟨hb0, hP, hQ⟩ := two_allocs w (.cells #[.int .i64 x0, .int .i64 x1, .int .i64 x2, .int .i64 x3, .int .i64 x4, .int .i64 x5, .int .i64 x6, .bool x7, .int .i64 x8, .bool x9, .slice a10 n10 c10, .slice a11 n11 c11] sgT) (.cells #[.int .i64 0, .int .i64 0, .int .i64 0, .int .i64 0, .int .i64 0, .int .i64 0, .int .i64 0, .bool false, .int .i64 0, .bool false, .slice none 0 0, .slice none 0 0] sgT)
  have HB : Hid (HoldV ((w.alloc (.cells #[.int .i64 x0, .int .i64 x1, .int .i64 x2, .int .i64 x3, .int .i64 x4, .int .i64 x5, .int .i64 x6, .bool x7, .int .i64 x8, .bool x9, .slice a10 n10 c10, .slice a11 n11 c11] sgT)).alloc (.cells #[.int .i64 0, .int .i64 0, .int .i64 0, .int .i64 0, .int .i64 0, .int .i64 0, .int .i64 0, .bool false, .int .i64 0, .bool false, .slice none 0 0, .slice none 0 0] sgT)) w.heap.size #[.int .i64 x0, .int .i64 x1, .int .i64 x2, .int .i64 x3, .int .i64 x4, .int .i64 x5, .int .i64 x6, .bool x7, .int .i64 x8, .bool x9, .slice a10 n10 c10, .slice a11 n11 c11] sgT) := hide hP
  have HR : Hid (HoldV ((w.alloc (.cells #[.int .i64 x0, .int .i64 x1, .int .i64 x2, .int .i64 x3, .int .i64 x4, .int .i64 x5, .int .i64 x6, .bool x7, .int .i64 x8, .bool x9, .slice a10 n10 c10, .slice a11 n11 c11] sgT)).alloc (.cells #[.int .i64 0, .int .i64 0, .int .i64 0, .int .i64 0, .int .i64 0, .int .i64 0, .int .i64 0, .bool false, .int .i64 0, .bool false, .slice none 0 0, .slice none 0 0] sgT)) (w.heap.size + 1) #[.int .i64 0, .int .i64 0, .int .i64 0, .int .i64 0, .int .i64 0, .int .i64 0, .int .i64 0, .bool false, .int .i64 0, .bool false, .slice none 0 0, .slice none 0 0] sgT) := hide hQ
  have HW := hide hb0
  have HA := hide ha
  have HN := hide hn
  obtain ⟨b, off, rfl, hbw, _⟩ := ha.2 0 (by omega)
  obtain ⟨_, _, ee, _, hc0⟩ := (ha.below hb0 (Nat.le_refl _)).2 0 (by omega)
  injection ee with ee; injection ee with ee1 ee2; subst ee1 ee2
  rw [Nat.add_zero, hk] at hc0
  have k10 := HB.out.cell 10 _ rfl
  have kf := HB.out.frozen
  have h0 : 0 < n := by omega
  have g1 : ¬ (n : Int) < 10 := by omega
  have g2 : ¬ (34 : Int) < (n : Int) := by omega
  have g3 : (n : Int) % 8 = 2 := by omega
  have HQ := hide hq
  have hn36 : n ≤ 34 := by omega
  clear hP hQ hb0 ha hn hk hq
  go_enter Tryd.func84, Tryd.ntmps84
  go_upto_region 1 with fail
  generalize ((w.alloc (.cells #[.int .i64 x0, .int .i64 x1, .int .i64 x2, .int .i64 x3, .int .i64 x4, .int .i64 x5, .int .i64 x6, .bool x7, .int .i64 x8, .bool x9, .slice a10 n10 c10, .slice a11 n11 c11] sgT)).alloc (.cells #[.int .i64 0, .int .i64 0, .int .i64 0, .int .i64 0, .int .i64 0, .int .i64 0, .int .i64 0, .bool false, .int .i64 0, .bool false, .slice none 0 0, .slice none 0 0] sgT)) = W at *
  go_upto_region 21 with fail
  have HS0 : Hid (SkS w (W.setCell ⟨w.heap.size, 10, none⟩ (.slice none 0 0)) #[.int .i64 x0, .int .i64 x1, .int .i64 x2, .int .i64 x3, .int .i64 x4, .int .i64 x5, .int .i64 x6, .bool x7, .int .i64 x8, .bool x9, .slice none 0 0, .slice a11 n11 c11] #[.int .i64 0, .int .i64 0, .int .i64 0, .int .i64 0, .int .i64 0, .int .i64 0, .int .i64 0, .bool false, .int .i64 0, .bool false, .slice none 0 0, .slice none 0 0] (.slice none 0 0) 0 []) := hide ⟨HW.out.setCell (p := ⟨w.heap.size, 10, none⟩) (Nat.le_refl _) _, by have h := HB.out.set1s 10 (.slice none 0 0); simpa using h, HR.out.fars w.heap.size 10 _ (by omega), World.ownsRow_nil _ _ _ _⟩
  clear HB HR HW hc0 k10 kf g1 g2 g3
  generalize (W.setCell ⟨w.heap.size, 10, none⟩ (.slice none 0 0)) = W1 at *
  go_wp2_with fail
  go_loopw [6] (fun t w2 => ∃ (k : Nat) (v : Value), k ≤ 3 ∧ k ≤ q ∧ t = .int .i64 (2 + 8 * (k : Int)) ∧ Hid (SkS w w2 #[.int .i64 x0, .int .i64 x1, .int .i64 x2, .int .i64 x3, .int .i64 x4, .int .i64 x5, .int .i64 x6, .bool x7, .int .i64 x8, .bool x9, v, .slice a11 n11 c11] #[.int .i64 0, .int .i64 0, .int .i64 0, .int .i64 0, .int .i64 0, .int .i64 0, .int .i64 0, .bool false, .int .i64 0, .bool false, .slice none 0 0, .slice none 0 0] v k (skL (zs.drop 2) k))) (fun t _ => 100 - (intOf t).toNat)
  case atStart => exact ⟨0, .slice none 0 0, by omega, by omega, rfl, HS0⟩
  case round =>
    obtain ⟨k, v, hk3, hkq, rfl, HS⟩ := hrel
    clear HS0
    obtain ⟨sa, sc, rfl⟩ : ∃ sa sc, v = .slice sa k sc := by
      rcases HS.out.2.2.2.2 with ⟨e, e2⟩ | ⟨g, c, cur, e, _⟩
      · exact ⟨none, 0, by rw [e, e2]⟩
      · exact ⟨_, _, e⟩
    have k10 := HS.out.2.1.cell 10 _ rfl
    have kf := HS.out.2.1.frozen
    by_cases hgo : k < q ∧ k < 3
    · obtain ⟨hg1, hg2⟩ := hgo
      have HKN : Hid (2 + 8 * k + 8 ≤ n) := hide (by have := HQ.out; omega)
      have c1 : (2 + 8 * (k : Int)) < (n : Int) := by have := HQ.out; omega
      have c2 : (k : Int) < 3 := by omega
      have w4 : IntKind.i64.wrap (2 + 8 * (k : Int) + 4) = 2 + 8 * (k : Int) + 4 := by rw [IntKind.wrap_i64]; omega
      have w8 : IntKind.i64.wrap (2 + 8 * (k : Int) + 8) = 2 + 8 * (k : Int) + 8 := by rw [IntKind.wrap_i64]; omega
      have s1 : ∀ w : World, (Instr.slice 23 (.slice (some ⟨b, off, none⟩) n cap) (some (.int .i64 (2 + 8 * (k : Int)))) (some (.int .i64 (2 + 8 * (k : Int) + 4))) none).run Tryd.prog w = .ok (.slice (some ⟨b, off + (2 + 8 * k), none⟩) 4 (cap - (2 + 8 * k))) w := fun w => by
        have h := sl_part b off n cap (2 + 8 * k) (2 + 8 * k + 4) (by omega) (by have := HKN.out; omega) (by have := HKN.out; omega) w
        rw [show 2 + 8 * k + 4 - (2 + 8 * k) = 4 by omega] at h
        exact h
      have s2 : ∀ w : World, (Instr.slice 23 (.slice (some ⟨b, off, none⟩) n cap) (some (.int .i64 (2 + 8 * (k : Int) + 4))) (some (.int .i64 (2 + 8 * (k : Int) + 8))) none).run Tryd.prog w = .ok (.slice (some ⟨b, off + (2 + 8 * k + 4), none⟩) 4 (cap - (2 + 8 * k + 4))) w := fun w => by
        have h := sl_part b off n cap (2 + 8 * k + 4) (2 + 8 * k + 8) (by omega) (by have := HKN.out; omega) (by have := HKN.out; omega) w
        rw [show 2 + 8 * k + 8 - (2 + 8 * k + 4) = 4 by omega] at h
        exact h
      have N1 := hide (fun W (hb : Below w.heap.size w W) => l03Num_walk (some ⟨b, off + (2 + 8 * k), none⟩) 4 (cap - (2 + 8 * k)) ((zs.drop (2 + 8 * k)).take 4) W (by rw [List.length_take, List.length_drop, HN.out]; have := HKN.out; omega) (((HA.out.below hb (Nat.le_refl _)).drop (2 + 8 * k)).take 4) (by omega))
      have N2 := hide (fun W (hb : Below w.heap.size w W) => l03Num_walk (some ⟨b, off + (2 + 8 * k + 4), none⟩) 4 (cap - (2 + 8 * k + 4)) ((zs.drop (2 + 8 * k + 4)).take 4) W (by rw [List.length_take, List.length_drop, HN.out]; have := HKN.out; omega) (((HA.out.below hb (Nat.le_refl _)).drop (2 + 8 * k + 4)).take 4) (by omega))
      have HT : Hid (skL (zs.drop 2) (k + 1) = skL (zs.drop 2) k ++ [tnum ((zs.drop (2 + 8 * k)).take 4), tnum ((zs.drop (2 + 8 * k + 4)).take 4)]) := hide (by rw [skL_succ, List.drop_drop, List.drop_drop, show 2 + 4 * (2 * k) = 2 + 8 * k by omega, show 2 + 4 * (2 * k + 1) = 2 + 8 * k + 4 by omega])
      generalize tnum ((zs.drop (2 + 8 * k)).take 4) = f at *
      generalize tnum ((zs.drop (2 + 8 * k + 4)).take 4) = t at *
      generalize off + (2 + 8 * k) = o1 at *
      generalize off + (2 + 8 * k + 4) = o2 at *
      generalize cap - (2 + 8 * k) = pq1 at *
      generalize cap - (2 + 8 * k + 4) = pq2 at *
      have HBW := hide HS.out.1
      have HBD := hide (HS.out.1.drew)
      have hne : (Value.slice sa k sc).ownBlock ≠ some w.heap.size := fun e => by have := (HS.out.2.2.2.lt _ e).1; omega
      have hne2 : (Value.slice sa k sc).ownBlock ≠ some (w.heap.size + 1) := fun e => by have := (HS.out.2.2.2.lt _ e).1; omega
      have hwl : w.heap.size + 2 ≤ wr.heap.size := by have := HS.out.2.2.1.lt; omega
      go_wp2_with fail
      have HSL := hide (skL_len (zs.drop 2) k)
      generalize hLL : skL (zs.drop 2) k = L at *
      have HLL := hide hLL
      clear hLL
      clear k10 kf
      have HSV : Hid (∀ g, (Value.slice sa k sc).ownBlock = some g → g < wr.heap.size) := hide (fun g hg => (HS.out.2.2.2.lt g hg).2)
      refine wp_region_flag (fun i W W2 => R24 (.slice sa k sc) i W W2) (fun fl W => B24 w #[.int .i64 x0, .int .i64 x1, .int .i64 x2, .int .i64 x3, .int .i64 x4, .int .i64 x5, .int .i64 x6, .bool x7, .int .i64 x8, .bool x9, .slice sa k sc, .slice a11 n11 c11] #[.int .i64 0, .int .i64 0, .int .i64 0, .int .i64 0, .int .i64 0, .int .i64 0, .int .i64 0, .bool false, .int .i64 0, .bool false, .slice none 0 0, .slice none 0 0] (.slice sa k sc) k L fl W) (A24k (w.heap.size + 2) w.heap.size k f t L (.slice sa k sc) (.slice (some ⟨b, off, none⟩) n cap) (.int .i64 (2 + 8 * (k : Int))) (.int .i64 (2 + 8 * (k : Int) + 4)) (.int .i64 (2 + 8 * (k : Int) + 8)) (.slice (some ⟨b, o1, none⟩) 4 pq1) (.slice (some ⟨b, o2, none⟩) 4 pq2)) _ rfl _ rfl (by kernel_rfl) (by kernel_rfl) (by kernel_rfl) (by kernel_rfl) A24k_kept (B24.start HS.out) ?_ ?_
      simp only [List.dropLast]
      refine EachF.one _ _ _ ?_ ?_
      · intro v W fl hfl hB hp KK hKK
        rw [if_pos (by rfl)]
        have hp1 : AllOf (A24k (w.heap.size + 2) w.heap.size k f t L (.slice sa k sc) (.slice (some ⟨b, off, none⟩) n cap) (.int .i64 (2 + 8 * (k : Int))) (.int .i64 (2 + 8 * (k : Int) + 4)) (.int .i64 (2 + 8 * (k : Int) + 8)) (.slice (some ⟨b, o1, none⟩) 4 pq1) (.slice (some ⟨b, o2, none⟩) 4 pq2)) v W [] := hp
        clear hp
        simp only [putAll, Act.put, List.setIfInBounds_toArray, List.set_cons_zero, List.set_cons_succ, Nat.reduceAdd] at hKK ⊢
        have HBB := hide hB
        clear hB
        go_simp
        refine hKK _ _ (Below.refl _ _) HBB.out.same ?_
        rfl
      refine EachF.one _ _ _ ?_ ?_
      · intro v W fl hfl hB hp KK hKK
        rw [if_pos (by rfl)]
        have hp1 : AllOf (A24k (w.heap.size + 2) w.heap.size k f t L (.slice sa k sc) (.slice (some ⟨b, off, none⟩) n cap) (.int .i64 (2 + 8 * (k : Int))) (.int .i64 (2 + 8 * (k : Int) + 4)) (.int .i64 (2 + 8 * (k : Int) + 8)) (.slice (some ⟨b, o1, none⟩) 4 pq1) (.slice (some ⟨b, o2, none⟩) 4 pq2)) v W [0] := hp
        clear hp
        simp only [putAll, Act.put, List.setIfInBounds_toArray, List.set_cons_zero, List.set_cons_succ, Nat.reduceAdd] at hKK ⊢
        obtain ⟨p0, _⟩ := hp1
        have e0 : v 0 = .pointer (some ⟨w.heap.size, 10, none⟩) := p0
        simp only [e0] at hKK ⊢
        clear p0 e0
        have HBB := hide hB
        clear hB
        have kk := HBB.out.1.2.1.cell 10 _ rfl
        go_simp
        refine hKK _ _ (Below.refl _ _) HBB.out.same ?_
        rfl
      refine EachF.one _ _ _ ?_ ?_
      · intro v W fl hfl hB hp KK hKK
        rw [if_pos (by rfl)]
        have hp1 : AllOf (A24k (w.heap.size + 2) w.heap.size k f t L (.slice sa k sc) (.slice (some ⟨b, off, none⟩) n cap) (.int .i64 (2 + 8 * (k : Int))) (.int .i64 (2 + 8 * (k : Int) + 4)) (.int .i64 (2 + 8 * (k : Int) + 8)) (.slice (some ⟨b, o1, none⟩) 4 pq1) (.slice (some ⟨b, o2, none⟩) 4 pq2)) v W [] := hp
        clear hp
        simp only [putAll, Act.put, List.setIfInBounds_toArray, List.set_cons_zero, List.set_cons_succ, Nat.reduceAdd] at hKK ⊢
        have HBB := hide hB
        clear hB
        go_simp
        refine hKK _ _ (Below.refl _ _) HBB.out.same ?_
        rfl
      refine EachF.one _ _ _ ?_ ?_
      · intro v W fl hfl hB hp KK hKK
        rw [if_pos (by rfl)]
        have hp1 : AllOf (A24k (w.heap.size + 2) w.heap.size k f t L (.slice sa k sc) (.slice (some ⟨b, off, none⟩) n cap) (.int .i64 (2 + 8 * (k : Int))) (.int .i64 (2 + 8 * (k : Int) + 4)) (.int .i64 (2 + 8 * (k : Int) + 8)) (.slice (some ⟨b, o1, none⟩) 4 pq1) (.slice (some ⟨b, o2, none⟩) 4 pq2)) v W [] := hp
        clear hp
        simp only [putAll, Act.put, List.setIfInBounds_toArray, List.set_cons_zero, List.set_cons_succ, Nat.reduceAdd] at hKK ⊢
        have HBB := hide hB
        clear hB
        go_simp
        refine hKK _ _ (Below.refl _ _) HBB.out.same ?_
        rfl
      refine EachF.one _ _ _ ?_ ?_
      · intro v W fl hfl hB hp KK hKK
        rw [if_pos (by rfl)]
        have hp1 : AllOf (A24k (w.heap.size + 2) w.heap.size k f t L (.slice sa k sc) (.slice (some ⟨b, off, none⟩) n cap) (.int .i64 (2 + 8 * (k : Int))) (.int .i64 (2 + 8 * (k : Int) + 4)) (.int .i64 (2 + 8 * (k : Int) + 8)) (.slice (some ⟨b, o1, none⟩) 4 pq1) (.slice (some ⟨b, o2, none⟩) 4 pq2)) v W [] := hp
        clear hp
        simp only [putAll, Act.put, List.setIfInBounds_toArray, List.set_cons_zero, List.set_cons_succ, Nat.reduceAdd] at hKK ⊢
        have HBB := hide hB
        clear hB
        go_simp
        refine hKK _ _ (Below.refl _ _) HBB.out.same ?_
        rfl
      refine EachF.one _ _ _ ?_ ?_
      · intro v W fl hfl hB hp KK hKK
        rw [if_pos (by rfl)]
        have hp1 : AllOf (A24k (w.heap.size + 2) w.heap.size k f t L (.slice sa k sc) (.slice (some ⟨b, off, none⟩) n cap) (.int .i64 (2 + 8 * (k : Int))) (.int .i64 (2 + 8 * (k : Int) + 4)) (.int .i64 (2 + 8 * (k : Int) + 8)) (.slice (some ⟨b, o1, none⟩) 4 pq1) (.slice (some ⟨b, o2, none⟩) 4 pq2)) v W [4] := hp
        clear hp
        simp only [putAll, Act.put, List.setIfInBounds_toArray, List.set_cons_zero, List.set_cons_succ, Nat.reduceAdd] at hKK ⊢
        obtain ⟨p4, _⟩ := hp1
        have e4 : v 4 = .int .i64 (2 + 8 * (k : Int)) := p4
        simp only [e4] at hKK ⊢
        clear p4 e4
        have HBB := hide hB
        clear hB
        go_simp
        refine hKK _ _ (Below.refl _ _) HBB.out.same ?_
        rfl
      refine EachF.one _ _ _ ?_ ?_
      · intro v W fl hfl hB hp KK hKK
        rw [if_pos (by rfl)]
        have hp1 : AllOf (A24k (w.heap.size + 2) w.heap.size k f t L (.slice sa k sc) (.slice (some ⟨b, off, none⟩) n cap) (.int .i64 (2 + 8 * (k : Int))) (.int .i64 (2 + 8 * (k : Int) + 4)) (.int .i64 (2 + 8 * (k : Int) + 8)) (.slice (some ⟨b, o1, none⟩) 4 pq1) (.slice (some ⟨b, o2, none⟩) 4 pq2)) v W [2, 3, 5] := hp
        clear hp
        simp only [putAll, Act.put, List.setIfInBounds_toArray, List.set_cons_zero, List.set_cons_succ, Nat.reduceAdd] at hKK ⊢
        obtain ⟨p2, p3, p5, _⟩ := hp1
        have e2 : v 2 = .slice (some ⟨b, off, none⟩) n cap := p2
        have e3 : v 3 = .int .i64 (2 + 8 * (k : Int)) := p3
        have e5 : v 5 = .int .i64 (2 + 8 * (k : Int) + 4) := p5
        simp only [e2, e3, e5] at hKK ⊢
        clear p2 p3 p5 e2 e3 e5
        have HBB := hide hB
        clear hB
        go_simp
        refine hKK _ _ (Below.refl _ _) HBB.out.same ?_
        rfl
      refine EachF.one _ _ _ ?_ ?_
      · intro v W fl hfl hB hp KK hKK
        rw [if_pos (by rfl)]
        have hp1 : AllOf (A24k (w.heap.size + 2) w.heap.size k f t L (.slice sa k sc) (.slice (some ⟨b, off, none⟩) n cap) (.int .i64 (2 + 8 * (k : Int))) (.int .i64 (2 + 8 * (k : Int) + 4)) (.int .i64 (2 + 8 * (k : Int) + 8)) (.slice (some ⟨b, o1, none⟩) 4 pq1) (.slice (some ⟨b, o2, none⟩) 4 pq2)) v W [6] := hp
        clear hp
        simp only [putAll, Act.put, List.setIfInBounds_toArray, List.set_cons_zero, List.set_cons_succ, Nat.reduceAdd] at hKK ⊢
        obtain ⟨p6, _⟩ := hp1
        have e6 : v 6 = .slice (some ⟨b, o1, none⟩) 4 pq1 := p6
        simp only [e6] at hKK ⊢
        clear p6 e6
        have HBB := hide hB
        clear hB
        go_simp
        refine (N1.out _ HBB.out.1.1).mono ?_
        rintro e w2 ⟨rfl, rfl⟩
        go_simp
        refine hKK _ _ (Below.refl _ _) HBB.out.same ?_
        rfl
      refine EachF.one _ _ _ ?_ ?_
      · intro v W fl hfl hB hp KK hKK
        rw [if_pos (by rfl)]
        have hp1 : AllOf (A24k (w.heap.size + 2) w.heap.size k f t L (.slice sa k sc) (.slice (some ⟨b, off, none⟩) n cap) (.int .i64 (2 + 8 * (k : Int))) (.int .i64 (2 + 8 * (k : Int) + 4)) (.int .i64 (2 + 8 * (k : Int) + 8)) (.slice (some ⟨b, o1, none⟩) 4 pq1) (.slice (some ⟨b, o2, none⟩) 4 pq2)) v W [] := hp
        clear hp
        simp only [putAll, Act.put, List.setIfInBounds_toArray, List.set_cons_zero, List.set_cons_succ, Nat.reduceAdd] at hKK ⊢
        have HBB := hide hB
        clear hB
        go_simp
        refine hKK _ _ (Below.refl _ _) HBB.out.same ?_
        rfl
      refine EachF.one _ _ _ ?_ ?_
      · intro v W fl hfl hB hp KK hKK
        rw [if_pos (by rfl)]
        have hp1 : AllOf (A24k (w.heap.size + 2) w.heap.size k f t L (.slice sa k sc) (.slice (some ⟨b, off, none⟩) n cap) (.int .i64 (2 + 8 * (k : Int))) (.int .i64 (2 + 8 * (k : Int) + 4)) (.int .i64 (2 + 8 * (k : Int) + 8)) (.slice (some ⟨b, o1, none⟩) 4 pq1) (.slice (some ⟨b, o2, none⟩) 4 pq2)) v W [] := hp
        clear hp
        simp only [putAll, Act.put, List.setIfInBounds_toArray, List.set_cons_zero, List.set_cons_succ, Nat.reduceAdd] at hKK ⊢
        have HBB := hide hB
        clear hB
        go_simp
        refine hKK _ _ (Below.refl _ _) HBB.out.same ?_
        rfl
      refine EachF.one _ _ _ ?_ ?_
      · intro v W fl hfl hB hp KK hKK
        rw [if_pos (by rfl)]
        have hp1 : AllOf (A24k (w.heap.size + 2) w.heap.size k f t L (.slice sa k sc) (.slice (some ⟨b, off, none⟩) n cap) (.int .i64 (2 + 8 * (k : Int))) (.int .i64 (2 + 8 * (k : Int) + 4)) (.int .i64 (2 + 8 * (k : Int) + 8)) (.slice (some ⟨b, o1, none⟩) 4 pq1) (.slice (some ⟨b, o2, none⟩) 4 pq2)) v W [9] := hp
        clear hp
        simp only [putAll, Act.put, List.setIfInBounds_toArray, List.set_cons_zero, List.set_cons_succ, Nat.reduceAdd] at hKK ⊢
        obtain ⟨p9, _⟩ := hp1
        have e9 : v 9 = .int .i64 (2 + 8 * (k : Int)) := p9
        simp only [e9] at hKK ⊢
        clear p9 e9
        have HBB := hide hB
        clear hB
        go_simp
        refine hKK _ _ (Below.refl _ _) HBB.out.same ?_
        rfl
      refine EachF.one _ _ _ ?_ ?_
      · intro v W fl hfl hB hp KK hKK
        rw [if_pos (by rfl)]
        have hp1 : AllOf (A24k (w.heap.size + 2) w.heap.size k f t L (.slice sa k sc) (.slice (some ⟨b, off, none⟩) n cap) (.int .i64 (2 + 8 * (k : Int))) (.int .i64 (2 + 8 * (k : Int) + 4)) (.int .i64 (2 + 8 * (k : Int) + 8)) (.slice (some ⟨b, o1, none⟩) 4 pq1) (.slice (some ⟨b, o2, none⟩) 4 pq2)) v W [] := hp
        clear hp
        simp only [putAll, Act.put, List.setIfInBounds_toArray, List.set_cons_zero, List.set_cons_succ, Nat.reduceAdd] at hKK ⊢
        have HBB := hide hB
        clear hB
        go_simp
        refine hKK _ _ (Below.refl _ _) HBB.out.same ?_
        rfl
      refine EachF.one _ _ _ ?_ ?_
      · intro v W fl hfl hB hp KK hKK
        rw [if_pos (by rfl)]
        have hp1 : AllOf (A24k (w.heap.size + 2) w.heap.size k f t L (.slice sa k sc) (.slice (some ⟨b, off, none⟩) n cap) (.int .i64 (2 + 8 * (k : Int))) (.int .i64 (2 + 8 * (k : Int) + 4)) (.int .i64 (2 + 8 * (k : Int) + 8)) (.slice (some ⟨b, o1, none⟩) 4 pq1) (.slice (some ⟨b, o2, none⟩) 4 pq2)) v W [11] := hp
        clear hp
        simp only [putAll, Act.put, List.setIfInBounds_toArray, List.set_cons_zero, List.set_cons_succ, Nat.reduceAdd] at hKK ⊢
        obtain ⟨p11, _⟩ := hp1
        have e11 : v 11 = .int .i64 (2 + 8 * (k : Int)) := p11
        simp only [e11] at hKK ⊢
        clear p11 e11
        have HBB := hide hB
        clear hB
        go_simp
        refine hKK _ _ (Below.refl _ _) HBB.out.same ?_
        rfl
      refine EachF.one _ _ _ ?_ ?_
      · intro v W fl hfl hB hp KK hKK
        rw [if_pos (by rfl)]
        have hp1 : AllOf (A24k (w.heap.size + 2) w.heap.size k f t L (.slice sa k sc) (.slice (some ⟨b, off, none⟩) n cap) (.int .i64 (2 + 8 * (k : Int))) (.int .i64 (2 + 8 * (k : Int) + 4)) (.int .i64 (2 + 8 * (k : Int) + 8)) (.slice (some ⟨b, o1, none⟩) 4 pq1) (.slice (some ⟨b, o2, none⟩) 4 pq2)) v W [8, 10, 12] := hp
        clear hp
        simp only [putAll, Act.put, List.setIfInBounds_toArray, List.set_cons_zero, List.set_cons_succ, Nat.reduceAdd] at hKK ⊢
        obtain ⟨p8, p10, p12, _⟩ := hp1
        have e8 : v 8 = .slice (some ⟨b, off, none⟩) n cap := p8
        have e10 : v 10 = .int .i64 (2 + 8 * (k : Int) + 4) := p10
        have e12 : v 12 = .int .i64 (2 + 8 * (k : Int) + 8) := p12
        simp only [e8, e10, e12] at hKK ⊢
        clear p8 p10 p12 e8 e10 e12
        have HBB := hide hB
        clear hB
        go_simp
        refine hKK _ _ (Below.refl _ _) HBB.out.same ?_
        rfl
      refine EachF.one _ _ _ ?_ ?_
      · intro v W fl hfl hB hp KK hKK
        rw [if_pos (by rfl)]
        have hp1 : AllOf (A24k (w.heap.size + 2) w.heap.size k f t L (.slice sa k sc) (.slice (some ⟨b, off, none⟩) n cap) (.int .i64 (2 + 8 * (k : Int))) (.int .i64 (2 + 8 * (k : Int) + 4)) (.int .i64 (2 + 8 * (k : Int) + 8)) (.slice (some ⟨b, o1, none⟩) 4 pq1) (.slice (some ⟨b, o2, none⟩) 4 pq2)) v W [13, 7] := hp
        clear hp
        simp only [putAll, Act.put, List.setIfInBounds_toArray, List.set_cons_zero, List.set_cons_succ, Nat.reduceAdd] at hKK ⊢
        obtain ⟨p13, p7, _⟩ := hp1
        have e13 : v 13 = .slice (some ⟨b, o2, none⟩) 4 pq2 := p13
        have e7 : v 7 = .int .i64 f := p7
        simp only [e13, e7] at hKK ⊢
        clear p13 p7 e13 e7
        have HBB := hide hB
        clear hB
        go_simp
        refine (N2.out _ HBB.out.1.1).mono ?_
        rintro e w2 ⟨rfl, rfl⟩
        go_simp
        refine hKK _ _ (Below.refl _ _) HBB.out.same ?_
        rfl
      refine EachF.one _ _ _ ?_ ?_
      · intro v W fl hfl hB hp KK hKK
        rw [if_pos (by rfl)]
        have hp1 : AllOf (A24k (w.heap.size + 2) w.heap.size k f t L (.slice sa k sc) (.slice (some ⟨b, off, none⟩) n cap) (.int .i64 (2 + 8 * (k : Int))) (.int .i64 (2 + 8 * (k : Int) + 4)) (.int .i64 (2 + 8 * (k : Int) + 8)) (.slice (some ⟨b, o1, none⟩) 4 pq1) (.slice (some ⟨b, o2, none⟩) 4 pq2)) v W [7, 14] := hp
        clear hp
        simp only [putAll, Act.put, List.setIfInBounds_toArray, List.set_cons_zero, List.set_cons_succ, Nat.reduceAdd] at hKK ⊢
        obtain ⟨p7, p14, _⟩ := hp1
        have e7 : v 7 = .int .i64 f := p7
        have e14 : v 14 = .int .i64 t := p14
        simp only [e7, e14] at hKK ⊢
        clear p7 p14 e7 e14
        have HBB := hide hB
        clear hB
        go_simp
        refine hKK _ _ (Below.refl _ _) HBB.out.same ?_
        rfl
      refine EachF.one _ _ _ ?_ ?_
      · intro v W fl hfl hB hp KK hKK
        rw [if_pos (by rfl)]
        have hp1 : AllOf (A24k (w.heap.size + 2) w.heap.size k f t L (.slice sa k sc) (.slice (some ⟨b, off, none⟩) n cap) (.int .i64 (2 + 8 * (k : Int))) (.int .i64 (2 + 8 * (k : Int) + 4)) (.int .i64 (2 + 8 * (k : Int) + 8)) (.slice (some ⟨b, o1, none⟩) 4 pq1) (.slice (some ⟨b, o2, none⟩) 4 pq2)) v W [15] := hp
        clear hp
        simp only [putAll, Act.put, List.setIfInBounds_toArray, List.set_cons_zero, List.set_cons_succ, Nat.reduceAdd] at hKK ⊢
        obtain ⟨p15, _⟩ := hp1
        have e15 : v 15 = .agg #[.int .i64 f, .int .i64 t] := p15
        simp only [e15] at hKK ⊢
        clear p15 e15
        have HBB := hide hB
        clear hB
        go_simp
        refine hKK _ _ ((Below.refl _ _).alloc (Nat.le_refl _) _) (HBB.out.next ((Below.refl _ _).alloc (Nat.le_refl _) _)) ?_
        exact ⟨_, rfl, heap_alloc_new _ _, fun g hg he => by have := HBB.out.1.2.2.2 g hg; omega⟩
      refine EachF.one _ _ _ ?_ ?_
      · intro v W fl hfl hB hp KK hKK
        rw [if_pos (by rfl)]
        have hp1 : AllOf (A24k (w.heap.size + 2) w.heap.size k f t L (.slice sa k sc) (.slice (some ⟨b, off, none⟩) n cap) (.int .i64 (2 + 8 * (k : Int))) (.int .i64 (2 + 8 * (k : Int) + 4)) (.int .i64 (2 + 8 * (k : Int) + 8)) (.slice (some ⟨b, o1, none⟩) 4 pq1) (.slice (some ⟨b, o2, none⟩) 4 pq2)) v W [1, 16, 14] := hp
        clear hp
        simp only [putAll, Act.put, List.setIfInBounds_toArray, List.set_cons_zero, List.set_cons_succ, Nat.reduceAdd] at hKK ⊢
        obtain ⟨p1, p16, p14, _⟩ := hp1
        have e1 : v 1 = .slice sa k sc := p1
        have o16 := p16
        have e14 : v 14 = .int .i64 t := p14
        simp only [e1, e14] at hKK ⊢
        clear p1 p14 e1 e14
        have HBB := hide hB
        clear hB
        obtain ⟨Y, eY, hY, hYn⟩ := o16
        simp only [eY] at hKK ⊢
        clear p16 eY
        have hro := HBB.out.2 hfl
        have HRO := hide hro
        have HYY := hide hY
        clear hro hY
        refine wp_append_lies W (.tmp 74) (.tmp 89) 29 rfl (w.heap.size + 2) 53 i _ 2 16 Tryd.underlying29 hi hz0 hz1 hz2 rfl (by decide) (.slice sa k sc) k (ival L) rfl HRO.out ⟨Y, 0, none⟩ 1 1 (ival [f, t]) rfl rfl (holdv_news HYY.out) (ival_one _) (by decide) (by unfold maxLen; omega) (by omega) (by have := HBB.out.1.2.2.1.lt; omega) _ rfl ?_
        intro g3 k3 w3 hown3 hgrow3 hat3 hlt3
        have hh : w3.ownsRow (w.heap.size + 2) 53 2 (.slice (some ⟨g3, 0, none⟩) (k + 1) k3) (k + 1) (ival (L ++ [f, t])) := by rw [ival_app]; exact hown3
        simp only [Act.put, List.setIfInBounds_toArray, List.set_cons_zero, List.set_cons_succ]
        refine hKK _ _ hgrow3 (HBB.out.app hgrow3 (fun g hg => (HRO.out.lt g hg).1)) ?_
        exact ⟨g3, k3, rfl, hh⟩
      refine EachF.one _ _ _ ?_ ?_
      · intro v W fl hfl hB hp KK hKK
        rw [if_pos (by rfl)]
        have hp1 : AllOf (A24k (w.heap.size + 2) w.heap.size k f t L (.slice sa k sc) (.slice (some ⟨b, off, none⟩) n cap) (.int .i64 (2 + 8 * (k : Int))) (.int .i64 (2 + 8 * (k : Int) + 4)) (.int .i64 (2 + 8 * (k : Int) + 8)) (.slice (some ⟨b, o1, none⟩) 4 pq1) (.slice (some ⟨b, o2, none⟩) 4 pq2)) v W [0, 1, 2, 3, 4, 5, 6, 7, 8, 9, 10, 11, 12, 13, 14, 15, 16, 17] := hp
        clear hp
        simp only [putAll, Act.put, List.setIfInBounds_toArray, List.set_cons_zero, List.set_cons_succ, Nat.reduceAdd] at hKK ⊢
        obtain ⟨p0, p1, p2, p3, p4, p5, p6, p7, p8, p9, p10, p11, p12, p13, p14, p15, p16, p17, _⟩ := hp1
        have e0 : v 0 = .pointer (some ⟨w.heap.size, 10, none⟩) := p0
        have e1 : v 1 = .slice sa k sc := p1
        have e2 : v 2 = .slice (some ⟨b, off, none⟩) n cap := p2
        have e3 : v 3 = .int .i64 (2 + 8 * (k : Int)) := p3
        have e4 : v 4 = .int .i64 (2 + 8 * (k : Int)) := p4
        have e5 : v 5 = .int .i64 (2 + 8 * (k : Int) + 4) := p5
        have e6 : v 6 = .slice (some ⟨b, o1, none⟩) 4 pq1 := p6
        have e7 : v 7 = .int .i64 f := p7
        have e8 : v 8 = .slice (some ⟨b, off, none⟩) n cap := p8
        have e9 : v 9 = .int .i64 (2 + 8 * (k : Int)) := p9
        have e10 : v 10 = .int .i64 (2 + 8 * (k : Int) + 4) := p10
        have e11 : v 11 = .int .i64 (2 + 8 * (k : Int)) := p11
        have e12 : v 12 = .int .i64 (2 + 8 * (k : Int) + 8) := p12
        have e13 : v 13 = .slice (some ⟨b, o2, none⟩) 4 pq2 := p13
        have e14 : v 14 = .int .i64 t := p14
        have e15 : v 15 = .agg #[.int .i64 f, .int .i64 t] := p15
        have o16 := p16
        have o17 := p17
        simp only [e0, e1, e2, e3, e4, e5, e6, e7, e8, e9, e10, e11, e12, e13, e14, e15] at hKK ⊢
        clear p0 p1 p2 p3 p4 p5 p6 p7 p8 p9 p10 p11 p12 p13 p14 p15 e0 e1 e2 e3 e4 e5 e6 e7 e8 e9 e10 e11 e12 e13 e14 e15
        have HBB := hide hB
        clear hB
        go_simp
        refine hKK _ _ (Below.refl _ _) HBB.out.same ?_
        rfl
      · exact trivial
      intro v W fl hfl hB hA KK hKK
      rw [if_pos (by rfl)]
      simp only [List.dropLast, putAll, Act.put, List.setIfInBounds_toArray, List.set_cons_zero, List.set_cons_succ, Nat.reduceAdd]
      have o17 := hA 17 (by decide)
      have e18 : v 18 = .pointer (some ⟨w.heap.size, 10, none⟩) := hA 18 (by decide)
      obtain ⟨g9, c9, e17, hro⟩ := o17
      simp only [e17, e18]
      clear e17 e18 hA
      generalize v 0 = y0; generalize v 1 = y1; generalize v 2 = y2; generalize v 3 = y3; generalize v 4 = y4; generalize v 5 = y5; generalize v 6 = y6; generalize v 7 = y7; generalize v 8 = y8; generalize v 9 = y9; generalize v 10 = y10; generalize v 11 = y11; generalize v 12 = y12; generalize v 13 = y13; generalize v 14 = y14; generalize v 15 = y15; generalize v 16 = y16
      have HBB := hide hB
      have HRO := hide hro
      clear hB hro
      have kk := HBB.out.1.2.1.cell 10 _ rfl
      have kf := HBB.out.1.2.1.frozen 10
      have HSN : Hid (SkS w (W.setCell ⟨w.heap.size, 10, none⟩ (.slice (some ⟨g9, 0, none⟩) (k + 1) c9)) #[.int .i64 x0, .int .i64 x1, .int .i64 x2, .int .i64 x3, .int .i64 x4, .int .i64 x5, .int .i64 x6, .bool x7, .int .i64 x8, .bool x9, .slice (some ⟨g9, 0, none⟩) (k + 1) c9, .slice a11 n11 c11] #[.int .i64 0, .int .i64 0, .int .i64 0, .int .i64 0, .int .i64 0, .int .i64 0, .int .i64 0, .bool false, .int .i64 0, .bool false, .slice none 0 0, .slice none 0 0] (.slice (some ⟨g9, 0, none⟩) (k + 1) c9) (k + 1) (skL (zs.drop 2) (k + 1))) := hide ⟨HBB.out.1.1.setCell (p := ⟨w.heap.size, 10, none⟩) (Nat.le_refl _) _, by have h := HBB.out.1.2.1.set1s 10 (.slice (some ⟨g9, 0, none⟩) (k + 1) c9); simpa using h, HBB.out.1.2.2.1.fars w.heap.size 10 _ (by omega), by rw [HT.out]; exact ownsRow_setCell_below HRO.out (a := ⟨w.heap.size, 10, none⟩) (by show w.heap.size < w.heap.size + 2; omega) _⟩
      go_simp
      refine hKK _ _ ?_
      clear hKK
      have w8b : IntKind.i64.wrap (2 + 8 * (k : Int) + 8) = 2 + 8 * (k : Int) + 8 := w8
      go_wp2_with fail
      exact ⟨⟨k + 1, _, by omega, by omega, by congr 1, HSN⟩, by simp [intOf]; omega⟩
    · have hkm : min 3 q = k := by omega
      have k0s := HS.out.2.1
      have k0 := k0s.cell 0 _ rfl; have k1 := k0s.cell 1 _ rfl; have k2 := k0s.cell 2 _ rfl; have k3 := k0s.cell 3 _ rfl; have k4 := k0s.cell 4 _ rfl; have k5 := k0s.cell 5 _ rfl; have k6 := k0s.cell 6 _ rfl; have k7 := k0s.cell 7 _ rfl; have k8 := k0s.cell 8 _ rfl; have k9 := k0s.cell 9 _ rfl; have k10b := k0s.cell 10 _ rfl; have k11 := k0s.cell 11 _ rfl
      have r0 := HS.out.2.2.1.cell 0 _ rfl; have r1 := HS.out.2.2.1.cell 1 _ rfl; have r2 := HS.out.2.2.1.cell 2 _ rfl; have r3 := HS.out.2.2.1.cell 3 _ rfl; have r4 := HS.out.2.2.1.cell 4 _ rfl; have r5 := HS.out.2.2.1.cell 5 _ rfl; have r6 := HS.out.2.2.1.cell 6 _ rfl; have r7 := HS.out.2.2.1.cell 7 _ rfl; have r8 := HS.out.2.2.1.cell 8 _ rfl; have r9 := HS.out.2.2.1.cell 9 _ rfl; have r10 := HS.out.2.2.1.cell 10 _ rfl; have r11 := HS.out.2.2.1.cell 11 _ rfl
      have rf := HS.out.2.2.1.frozen
      have HBW := hide HS.out.1; have HRR := hide HS.out.2.2.1; have HOW := hide HS.out.2.2.2
      have HKM := hide hkm
      clear k10 hkm k0s HS
      have hcs : (2 + 8 * (k : Int)) < (n : Int) ∨ ¬ (2 + 8 * (k : Int)) < (n : Int) := by omega
      rcases hcs with hc1 | hc1
      all_goals
        have hc2 : (2 + 8 * (k : Int)) < (n : Int) → ¬ (k : Int) < 3 := fun h => by have := HQ.out; omega
        first
          | (have hc3 := hc2 hc1; clear hc2; go_wp2_with fail)
          | (clear hc2; go_wp2_with fail)
        refine ret12 (P := fun X => bodyPost Tryd.prog Tryd.f84 _ _ _ X) HRR.out ?_
        intro W9 hr9 hg9
        have hb9 := HBW.out.grown hg9 HBW.out.size (fun k hk => by cases hk; omega)
        have ho9 : W9.ownsRow (w.heap.size + 2) 53 2 (.slice sa k sc) k (ival (skL (zs.drop 2) k)) := HOW.out.kept hg9 (.inr (fun e => by have := (HOW.out.lt _ e).1; omega))
        clear hg9 k0 k1 k2 k3 k4 k5 k6 k7 k8 k9 k10b k11 r0 r1 r2 r3 r4 r5 r6 r7 r8 r9 r10 r11 rf
        have r0 := hr9.cell 0 _ rfl; have r1 := hr9.cell 1 _ rfl; have r2 := hr9.cell 2 _ rfl; have r3 := hr9.cell 3 _ rfl; have r4 := hr9.cell 4 _ rfl; have r5 := hr9.cell 5 _ rfl; have r6 := hr9.cell 6 _ rfl; have r7 := hr9.cell 7 _ rfl; have r8 := hr9.cell 8 _ rfl; have r9 := hr9.cell 9 _ rfl; have r10 := hr9.cell 10 _ rfl; have r11 := hr9.cell 11 _ rfl
        refine bodyPost_ret (v := .tuple #[.agg #[.int .i64 x0, .int .i64 x1, .int .i64 x2, .int .i64 x3, .int .i64 x4, .int .i64 x5, .int .i64 x6, .bool x7, .int .i64 x8, .bool x9, .slice sa k sc, .slice a11 n11 c11], .bool true]) (by simp [results, Tryd.results84, go_sem, r0, r1, r2, r3, r4, r5, r6, r7, r8, r9, r10, r11]) rfl ?_
        exact ⟨_, rfl, by rw [HKM.out]; exact (ownsAt.of_row ho9).mono (by omega), hb9⟩
end Go.Proofs.YtcnfnimgpiaamaaDoor
