/-
Contracts of functions of this seat.
-/
import Derived.Test.YtcnfnimgpiaamaaDoorRows
import Derived.WalkKit
import Derived.ProofKit
import Derived.OpenShut
import Derived.Test.YtcnfnimgpiaamaaDoorSd6
import Derived.Deep.Cut
import Derived.Deep.RegionWith
namespace Go.Proofs.YtcnfnimgpiaamaaDoor
open Go.ChangeShapes Go.WideShapes Go.ChangeAt Go.RowKit
set_option linter.unusedVariables false
set_option maxRecDepth 100000
theorem sl_anyo (b off n cap l h : Nat) (hl : l ≤ h) (hh : h ≤ cap) : ∃ a' : Option Addr, (∀ w : World, (Instr.slice 23 (.slice (some ⟨b, off, none⟩) n cap) (some (.int .i64 (l : Int))) (some (.int .i64 (h : Int))) none).run Tryd.prog w = .ok (.slice a' (h - l) (cap - l)) w) ∧ (l < cap → a' = some ⟨b, off + l, none⟩) := by
  by_cases hc : l < cap
  · exact ⟨_, sl_part b off n cap l h hl hh hc, fun _ => rfl⟩
  · refine ⟨some ⟨b, off, none⟩, fun w => ?_, fun h => absurd h hc⟩
    have hs : (sizeOf (Tryd.prog.elem 23)).run Tryd.prog w = .ok 1 w := Tryd.sizeOf5 w
    have he := run_slice_lh (P := Tryd.prog) (w := w) 23 (some ⟨b, off, none⟩) n cap Tryd.underlying23 .i64 .i64 (l : Int) (h : Int) (by omega) (by omega) (by omega)
    rw [he, hs]
    have e3 : cap = l := by omega
    subst e3
    simp [sliced, Result.andThen]
theorem arr_anyo {w : World} {b off cap l h : Nat} {zs : List Int} {a' : Option Addr} (ha : Arr w (some ⟨b, off, none⟩) zs) (he : l < cap → a' = some ⟨b, off + l, none⟩) (hh : h ≤ cap) : Arr w a' ((zs.drop l).take (h - l)) := by
  by_cases hc : l < cap
  · rw [he hc]; exact (ha.drop l).take (h - l)
  · have e : (zs.drop l).take (h - l) = [] := by rw [show h - l = 0 by omega, List.take_zero]
    rw [e]
    exact ⟨by simp, fun j hj => by simp at hj⟩
/-- Three bytes of a packet are as they were. -/

theorem own_gr {w w' : World} {B g : Nat} {v : Value} {zs : List Int} (h : OwnB w B v zs) (hg : w.grownBy w' (some g)) (hB : ∀ k, v.ownBlock = some k → k ≠ g) : OwnB w' B v zs := by
  refine ⟨⟨h.1.1, ?_⟩, h.2⟩
  rcases h.1.2 with h0 | ⟨g', cap, cur, hv, hBg, hc, hrest⟩
  · exact .inl h0
  · refine .inr ⟨g', cap, cur, hv, hBg, ?_, hrest⟩
    rw [hg.block g' (Array.getElem?_eq_some_iff.1 hc).1 (fun e => hB g' (by rw [hv]; rfl) (by injection e))]
    exact hc
theorem own_ned {w : World} {B b : Nat} {v : Value} {zs : List Int} {vs : Array Value} (h : OwnB w B v zs) (hb : HoldV w b vs sgT) (_ : True) : ∀ k, v.ownBlock = some k → k ≠ b := by
  intro k hk e
  subst e
  rcases h.1.2 with ⟨rfl, _⟩ | ⟨g', cap, cur, rfl, hBg, hc, _⟩
  · simp [Value.ownBlock] at hk
  · simp [Value.ownBlock] at hk
    subst hk
    have := hc.symm.trans hb
    simp [sgT] at this

theorem owni_gr {w w' : World} {B r : Nat} {v : Value} {L : List Int} (h : OwnI w B 53 2 v r L) {g : Nat} (hg : w.grownBy w' (some g)) (hB : ∀ k, v.ownBlock = some k → k ≠ g) : OwnI w' B 53 2 v r L :=
  ownsAt.frame h (fun b hb => hg.block b (ownsAt.lt h b hb).2 (fun e => hB b hb (by injection e)))
theorem owni_ne {w : World} {B b r : Nat} {v : Value} {L : List Int} {vs : Array Value} (h : OwnI w B 53 2 v r L) (hb : HoldV w b vs sgT) : ∀ k, v.ownBlock = some k → k ≠ b := by
  intro k hk e
  subst e
  rcases h.2 with ⟨rfl, _⟩ | ⟨g', off, cap, cur, rfl, hBg, hc, _⟩
  · simp [Value.ownBlock] at hk
  · simp [Value.ownBlock] at hk
    subst hk
    have := hc.symm.trans hb
    simp [sgT] at this
theorem own_apart3 {w : World} {B C r : Nat} {v u : Value} {L ps : List Int} (h : OwnI w B 53 2 v r L) (k : OwnB w C u ps) : ∀ b, v.ownBlock = some b → u.ownBlock ≠ some b := by
  intro b hb hu
  rcases h.2 with ⟨rfl, _⟩ | ⟨g', off, cap, cur, rfl, hBg, hc, _⟩
  · simp [Value.ownBlock] at hb
  · simp [Value.ownBlock] at hb
    subst hb
    rcases k.1.2 with ⟨rfl, _⟩ | ⟨g2, cap2, cur2, rfl, _, hc2, _⟩
    · simp [Value.ownBlock] at hu
    · simp [Value.ownBlock] at hu
      subst hu
      have := hc.symm.trans hc2
      simp at this
/-- What the model's DecodeSegment answers where the sum is right. -/
def DcP (w : World) (y0 y1 y2 y3 y4 y5 : Int) (os ps : List Int) (e : Ending) (w' : World) : Prop :=
  (rdO os ⟨0, false, 0, false, []⟩ = none ∧ e = .returned (.tuple #[.agg #[.int .i64 0, .int .i64 0, .int .i64 0, .int .i64 0, .int .i64 0, .int .i64 0, .int .i64 0, .bool false, .int .i64 0, .bool false, .slice none 0 0, .slice none 0 0], .int .i64 10]) ∧ Below w.heap.size w w') ∨
  ∃ (st : OSt) (v0 v1 : Value), rdO os ⟨0, false, 0, false, []⟩ = some st ∧ e = .returned (.tuple #[.agg #[.int .i64 y0, .int .i64 y1, .int .i64 y2, .int .i64 y3, .int .i64 y4, .int .i64 y5, .int .i64 st.m, .bool st.hs, .int .i64 st.sc, .bool st.so, v0, v1], .int .i64 0]) ∧ OwnI w' w.heap.size 53 2 v0 (st.L.length / 2) st.L ∧ OwnB w' w.heap.size v1 ps ∧ (∀ b, v0.ownBlock = some b → v1.ownBlock ≠ some b) ∧ Below w.heap.size w w'

theorem and_63_u8 (x : Int) (h0 : 0 ≤ x) (h1 : x ≤ 255) : bits .and .u8 x 63 = x % 64 :=
  and_mask .u8 6 (by decide) (fun n h0 h1 => by rw [IntKind.wrap_u8]; have : n < 64 := h1; omega) x
def B12 (w : World) (rs : Array Value) (_ : Nat → Bool) (W : World) : Prop := Below w.heap.size w W ∧ HoldV W w.heap.size rs sgT
theorem B12.next {w W W2 : World} {rs : Array Value} {f g : Nat → Bool} (h : B12 w rs f W) (hb : Below W.heap.size W W2) : B12 w rs g W2 := ⟨below_on h.1 hb, h.2.next hb⟩
theorem B12.same {w W : World} {rs : Array Value} {f g : Nat → Bool} (h : B12 w rs f W) : B12 w rs g W := h
def A12d (N X o13 : Nat) (y0 y1 y2 y3 y4 y5 x13 z8 : Int) (ps : List Int) (bv u0 u2 u4 uE u14 uD : Value) : Nat → Value → World → Prop
  | 0, v, _ => v = bv
  | 1, v, _ => v = u0
  | 2, v, _ => v = .int .i64 y0
  | 3, v, _ => v = bv
  | 4, v, _ => v = u2
  | 5, v, _ => v = .int .i64 y1
  | 6, v, _ => v = bv
  | 7, v, _ => v = u4
  | 8, v, _ => v = .int .i64 y2
  | 9, v, _ => v = bv
  | 10, v, _ => v = uE
  | 11, v, _ => v = .int .i64 y3
  | 12, v, _ => v = bv
  | 13, v, _ => v = .pointer (some ⟨X, o13, none⟩)
  | 14, v, _ => v = .int .u8 x13
  | 15, v, _ => v = .int .u8 y4
  | 16, v, _ => v = .int .i64 y4
  | 17, v, _ => v = bv
  | 18, v, _ => v = u14
  | 19, v, _ => v = .int .i64 y5
  | 20, v, _ => v = bv
  | 21, v, _ => v = .int .i64 z8
  | 22, v, _ => v = uD
  | 23, v, W => OwnB W N v ps
  | 24, v, W => ∃ ac cc, v = .agg #[.int .i64 y0, .int .i64 y1, .int .i64 y2, .int .i64 y3, .int .i64 y4, .int .i64 y5, .int .i64 0, .bool false, .int .i64 0, .bool false, .slice none 0 0, .slice ac ps.length cc] ∧ OwnB W N (.slice ac ps.length cc) ps
  | 25, v, W => ∃ Y, v = .pointer (some ⟨Y, 0, none⟩) ∧ HoldV W Y #[.int .i64 0, .int .i64 0, .int .i64 0, .int .i64 0, .int .i64 0, .int .i64 0, .int .i64 0, .bool false, .int .i64 0, .bool false, .slice none 0 0, .slice none 0 0] sgT ∧ N ≤ Y
  | _, _, _ => True
theorem A12d_kept {N X o13 : Nat} {y0 y1 y2 y3 y4 y5 x13 z8 : Int} {ps : List Int} {bv u0 u2 u4 uE u14 uD : Value} : ∀ (i q : Nat) (v : Value) (W W2 : World), i ≠ q → Below W.heap.size W W2 → A12d N X o13 y0 y1 y2 y3 y4 y5 x13 z8 ps bv u0 u2 u4 uE u14 uD q v W → A12d N X o13 y0 y1 y2 y3 y4 y5 x13 z8 ps bv u0 u2 u4 uE u14 uD q v W2 := by
  intro i q v W W2 _ hb h
  unfold A12d at h ⊢
  split at h
  all_goals first
    | exact h
    | exact OwnB.nx h hb
    | (obtain ⟨ac, cc, e, ho⟩ := h; exact ⟨ac, cc, e, ho.nx hb⟩)
    | (obtain ⟨Y, e, hY, hn⟩ := h; exact ⟨Y, e, hY.next hb, hn⟩)
set_option maxHeartbeats 8000000 in
theorem specDecS_mid (b off n cap : Nat) (s d : Int) (zs : List Int) (w : World) (h0 : adrB s = true) (h1 : adrB d = true) (h20 : 20 ≤ n) (hm : n ≤ 65515) (hn : zs.length = n) (ha : Arr w (some ⟨b, off, none⟩) zs) (hcap : n ≤ cap) (hl : ¬ dsS zs < 20) (hh : dsS zs ≤ n) (hf : fsum s d 6 zs = 0) :
    Calls Tryd.prog 12 #[.slice (some ⟨b, off, none⟩) n cap, .int .i64 s, .int .i64 d] w fun e w' => DcP w (tnum (zs.take 2)) (tnum ((zs.drop 2).take 2)) (tnum ((zs.drop 4).take 4)) (tnum ((zs.drop 8).take 4)) (zs.getD 13 0 % 64) (tnum ((zs.drop 14).take 2)) ((zs.drop 20).take (dsS zs - 20)) (zs.drop (dsS zs)) e w' := by
  have HR : Hid (HoldV (w.alloc (.cells #[.int .i64 0, .int .i64 0, .int .i64 0, .int .i64 0, .int .i64 0, .int .i64 0, .int .i64 0, .bool false, .int .i64 0, .bool false, .slice none 0 0, .slice none 0 0] sgT)) w.heap.size #[.int .i64 0, .int .i64 0, .int .i64 0, .int .i64 0, .int .i64 0, .int .i64 0, .int .i64 0, .bool false, .int .i64 0, .bool false, .slice none 0 0, .slice none 0 0] sgT) := hide (heap_alloc_new _ _)
  have HW := hide ((Below.refl w.heap.size w).alloc (Nat.le_refl _) (.cells #[.int .i64 0, .int .i64 0, .int .i64 0, .int .i64 0, .int .i64 0, .int .i64 0, .int .i64 0, .bool false, .int .i64 0, .bool false, .slice none 0 0, .slice none 0 0] sgT))
  have hi : ¬ (n : Int) < 20 := by omega
  have hj : ¬ (65515 : Int) < (n : Int) := by omega
  obtain ⟨_, _, ee, hbw, hc12⟩ := (ha.below HW.out (Nat.le_refl _)).2 12 (by omega)
  injection ee with ee; injection ee with ee1 ee2; subst ee1 ee2
  have h12n : 12 < n := by omega
  have h12i : (12 : Int) < (n : Int) := by omega
  have h13n : 13 < n := by omega
  have h13i : (13 : Int) < (n : Int) := by omega
  have hbd := getD_bd ha.1 12; have hbd13 := getD_bd ha.1 13
  have HSQ : Hid (((dsS zs : Nat) : Int) = zs.getD 12 0 / 16 * 4) := hide (by unfold dsS; omega)
  have hx0 := hbd.1; have hx1 := hbd.2
  have hlq : ¬ zs.getD 12 0 / 16 * 4 < 20 := by have := HSQ.out; omega
  have hhq : ¬ (n : Int) < zs.getD 12 0 / 16 * 4 := by have := HSQ.out; omega
  have CF := hide (fun W (hb : Below w.heap.size w W) => l10Sum_walk (some ⟨b, off, none⟩) n cap s d 6 zs W hn (ha.below hb (Nat.le_refl _)) (by omega))
  rw [hf] at CF
  have e63 := and_63_u8 (zs.getD 13 0) hbd13.1 hbd13.2
  have HC13 : Hid (∀ W, Below w.heap.size w W → W.cell? ⟨b, off + 13, none⟩ = some (.int .u8 (zs.getD 13 0))) := hide (fun W hb => by
    obtain ⟨_, _, ee, _, hc⟩ := (ha.below hb (Nat.le_refl _)).2 13 (by omega)
    injection ee with ee; injection ee with ee1 ee2; subst ee1 ee2; exact hc)
  obtain ⟨aO, sO, hOO⟩ := sl_anyo b off n cap 20 (dsS zs) (by omega) (by omega)
  have HAO := hide (fun W (hb : Below w.heap.size w W) => arr_anyo (ha.below hb (Nat.le_refl _)) hOO (show dsS zs ≤ cap by omega))
  have HLO : Hid (((zs.drop 20).take (dsS zs - 20)).length = dsS zs - 20) := hide (by rw [List.length_take, List.length_drop]; omega)
  have HQ6 : Hid (dsS zs ≤ 60) := hide (by unfold dsS; have := (getD_bd ha.1 12).2; omega)
  clear hOO
  generalize hQQ : dsS zs = Q at *
  obtain ⟨aD, sD, hD⟩ := sl_anys b off n cap Q hh hcap
  have CD := hide (fun W (hb : Below w.heap.size w W) => l01Copy_walk aD (n - Q) (cap - Q) (zs.drop Q) W (by rw [List.length_drop]; omega) (arr_anys (ha.below hb (Nat.le_refl _)) hD (by omega)) (by omega))
  have N2 := hide (fun W (hb : Below w.heap.size w W) => l03Num_walk (some ⟨b, off + 2, none⟩) 2 (cap - 2) ((zs.drop 2).take 2) W (by rw [List.length_take, List.length_drop]; omega) (((ha.below hb (Nat.le_refl _)).drop 2).take 2) (by omega))
  have s2 : ∀ w : World, (Instr.slice 23 (.slice (some ⟨b, off, none⟩) n cap) (some (.int .i64 2)) (some (.int .i64 4)) none).run Tryd.prog w = .ok (.slice (some ⟨b, off + 2, none⟩) 2 (cap - 2)) w := sl_part b off n cap 2 4 (by omega) (by omega) (by omega)
  have N4 := hide (fun W (hb : Below w.heap.size w W) => l03Num_walk (some ⟨b, off + 4, none⟩) 4 (cap - 4) ((zs.drop 4).take 4) W (by rw [List.length_take, List.length_drop]; omega) (((ha.below hb (Nat.le_refl _)).drop 4).take 4) (by omega))
  have s4 : ∀ w : World, (Instr.slice 23 (.slice (some ⟨b, off, none⟩) n cap) (some (.int .i64 4)) (some (.int .i64 8)) none).run Tryd.prog w = .ok (.slice (some ⟨b, off + 4, none⟩) 4 (cap - 4)) w := sl_part b off n cap 4 8 (by omega) (by omega) (by omega)
  have N8 := hide (fun W (hb : Below w.heap.size w W) => l03Num_walk (some ⟨b, off + 8, none⟩) 4 (cap - 8) ((zs.drop 8).take 4) W (by rw [List.length_take, List.length_drop]; omega) (((ha.below hb (Nat.le_refl _)).drop 8).take 4) (by omega))
  have s8 : ∀ w : World, (Instr.slice 23 (.slice (some ⟨b, off, none⟩) n cap) (some (.int .i64 8)) (some (.int .i64 12)) none).run Tryd.prog w = .ok (.slice (some ⟨b, off + 8, none⟩) 4 (cap - 8)) w := sl_part b off n cap 8 12 (by omega) (by omega) (by omega)
  have N14 := hide (fun W (hb : Below w.heap.size w W) => l03Num_walk (some ⟨b, off + 14, none⟩) 2 (cap - 14) ((zs.drop 14).take 2) W (by rw [List.length_take, List.length_drop]; omega) (((ha.below hb (Nat.le_refl _)).drop 14).take 2) (by omega))
  have s14 : ∀ w : World, (Instr.slice 23 (.slice (some ⟨b, off, none⟩) n cap) (some (.int .i64 14)) (some (.int .i64 16)) none).run Tryd.prog w = .ok (.slice (some ⟨b, off + 14, none⟩) 2 (cap - 14)) w := sl_part b off n cap 14 16 (by omega) (by omega) (by omega)
  have N0 := hide (fun W (hb : Below w.heap.size w W) => l03Num_walk (some ⟨b, off, none⟩) 2 cap (zs.take 2) W (by rw [List.length_take]; omega) ((ha.below hb (Nat.le_refl _)).take 2) (by omega))
  have s0 : ∀ w : World, (Instr.slice 23 (.slice (some ⟨b, off, none⟩) n cap) none (some (.int .i64 2)) none).run Tryd.prog w = .ok (.slice (some ⟨b, off, none⟩) 2 cap) w := sl_to b off n cap 2 (by omega) (by omega)
  have HSX : Hid (zs.getD 12 0 / 16 * 4 = (Q : Int)) := hide HSQ.out.symm
  generalize zs.getD 12 0 = x at *
  generalize zs.getD 13 0 = x13 at *
  have HY4 : Hid (0 ≤ x13 % 64 ∧ x13 % 64 ≤ 9223372036854775807) := hide (by omega)
  generalize x13 % 64 = y4 at *
  generalize tnum (zs.take 2) = y0 at *
  generalize tnum ((zs.drop 2).take 2) = y1 at *
  generalize tnum ((zs.drop 4).take 4) = y2 at *
  generalize tnum ((zs.drop 8).take 4) = y3 at *
  generalize tnum ((zs.drop 14).take 2) = y5 at *
  generalize zs.drop Q = ps at *
  generalize (zs.drop 20).take (Q - 20) = os at *
  have sO2 : ∀ w : World, (Instr.slice 23 (.slice (some ⟨b, off, none⟩) n cap) (some (.int .i64 20)) (some (.int .i64 (Q : Int))) none).run Tryd.prog w = .ok (.slice aO (Q - 20) (cap - 20)) w := sO
  clear sO
  have HO13 := hide (rfl : off + 13 = off + 13)
  generalize hO13 : off + 13 = o13 at HO13 HC13
  clear HO13
  have HO13 := hide hO13
  clear hO13
  generalize off + 2 = o2 at *; generalize cap - 2 = pc2 at *
  generalize off + 4 = o4 at *; generalize cap - 4 = pc4 at *
  generalize off + 8 = o8 at *; generalize cap - 8 = pc8 at *
  generalize off + 14 = o14 at *; generalize cap - 14 = pc14 at *
  have hQe : x / 16 * 4 = (Q : Int) := HSX.out
  clear HSQ ha hn hl hh hf hQQ hD hbd hbd13 HSX
  have r0 := HR.out.cell 0 _ rfl; have r1 := HR.out.cell 1 _ rfl; have r2 := HR.out.cell 2 _ rfl; have r3 := HR.out.cell 3 _ rfl; have r4 := HR.out.cell 4 _ rfl; have r5 := HR.out.cell 5 _ rfl; have r6 := HR.out.cell 6 _ rfl; have r7 := HR.out.cell 7 _ rfl; have r8 := HR.out.cell 8 _ rfl; have r9 := HR.out.cell 9 _ rfl; have r10 := HR.out.cell 10 _ rfl; have r11 := HR.out.cell 11 _ rfl; have rf := HR.out.frozen
  go_enter Tryd.func12, Tryd.ntmps12
  go_upto_region 1 with fail
  generalize w.alloc (.cells #[.int .i64 0, .int .i64 0, .int .i64 0, .int .i64 0, .int .i64 0, .int .i64 0, .int .i64 0, .bool false, .int .i64 0, .bool false, .slice none 0 0, .slice none 0 0] sgT) = W at *
  go_wp2_with (first | (go_at_call 36; refine (specAddrOK_walk _ _).mono ?_; rintro e w2 ⟨rfl, rfl⟩))
  refine (CF.out _ HW.out).mono ?_
  rintro e w1 ⟨rfl, hb1⟩
  have HB1 : Hid (B12 w #[.int .i64 0, .int .i64 0, .int .i64 0, .int .i64 0, .int .i64 0, .int .i64 0, .int .i64 0, .bool false, .int .i64 0, .bool false, .slice none 0 0, .slice none 0 0] (fun _ => false) w1.drew) := hide ⟨(below_on HW.out hb1).drew, HR.out.next hb1.drew⟩
  clear hb1 HR HW rf r0 r1 r2 r3 r4 r5 r6 r7 r8 r9 r10 r11
  go_wp2_with fail
  refine wp_region_flag (fun _ W W2 => Below W.heap.size W W2) (fun fl W => B12 w #[.int .i64 0, .int .i64 0, .int .i64 0, .int .i64 0, .int .i64 0, .int .i64 0, .int .i64 0, .bool false, .int .i64 0, .bool false, .slice none 0 0, .slice none 0 0] fl W) (A12d (w.heap.size + 1) b o13 y0 y1 y2 y3 y4 y5 x13 (Q : Int) ps (.slice (some ⟨b, off, none⟩) n cap) (.slice (some ⟨b, off, none⟩) 2 cap) (.slice (some ⟨b, o2, none⟩) 2 pc2) (.slice (some ⟨b, o4, none⟩) 4 pc4) (.slice (some ⟨b, o8, none⟩) 4 pc8) (.slice (some ⟨b, o14, none⟩) 2 pc14) (.slice aD (n - Q) (cap - Q))) _ rfl _ rfl (by kernel_rfl) (by kernel_rfl) (by kernel_rfl) (by kernel_rfl) A12d_kept HB1.out ?_ ?_
  simp only [List.dropLast]
  refine EachF.one _ _ _ ?_ ?_
  · intro v W fl hfl hB hp KK hKK
    rw [if_pos (by rfl)]
    have hp1 : AllOf (A12d (w.heap.size + 1) b o13 y0 y1 y2 y3 y4 y5 x13 (Q : Int) ps (.slice (some ⟨b, off, none⟩) n cap) (.slice (some ⟨b, off, none⟩) 2 cap) (.slice (some ⟨b, o2, none⟩) 2 pc2) (.slice (some ⟨b, o4, none⟩) 4 pc4) (.slice (some ⟨b, o8, none⟩) 4 pc8) (.slice (some ⟨b, o14, none⟩) 2 pc14) (.slice aD (n - Q) (cap - Q))) v W [] := hp
    clear hp
    simp only [putAll, Act.put, List.setIfInBounds_toArray, List.set_cons_zero, List.set_cons_succ, Nat.reduceAdd] at hKK ⊢
    have HBB := hide hB
    clear hB
    go_simp
    refine hKK _ _ (Below.refl _ _) HBB.out.same ?_
    rfl
  refine EachF.one _ _ _ ?_ ?_
  · intro v W fl hfl hB hp KK hKK
    rw [if_pos (by rfl)]
    have hp1 : AllOf (A12d (w.heap.size + 1) b o13 y0 y1 y2 y3 y4 y5 x13 (Q : Int) ps (.slice (some ⟨b, off, none⟩) n cap) (.slice (some ⟨b, off, none⟩) 2 cap) (.slice (some ⟨b, o2, none⟩) 2 pc2) (.slice (some ⟨b, o4, none⟩) 4 pc4) (.slice (some ⟨b, o8, none⟩) 4 pc8) (.slice (some ⟨b, o14, none⟩) 2 pc14) (.slice aD (n - Q) (cap - Q))) v W [0] := hp
    clear hp
    simp only [putAll, Act.put, List.setIfInBounds_toArray, List.set_cons_zero, List.set_cons_succ, Nat.reduceAdd] at hKK ⊢
    obtain ⟨p0, _⟩ := hp1
    have e0 : v 0 = .slice (some ⟨b, off, none⟩) n cap := p0
    simp only [e0] at hKK ⊢
    clear p0 e0
    have HBB := hide hB
    clear hB
    go_simp
    refine hKK _ _ (Below.refl _ _) HBB.out.same ?_
    rfl
  refine EachF.one _ _ _ ?_ ?_
  · intro v W fl hfl hB hp KK hKK
    rw [if_pos (by rfl)]
    have hp1 : AllOf (A12d (w.heap.size + 1) b o13 y0 y1 y2 y3 y4 y5 x13 (Q : Int) ps (.slice (some ⟨b, off, none⟩) n cap) (.slice (some ⟨b, off, none⟩) 2 cap) (.slice (some ⟨b, o2, none⟩) 2 pc2) (.slice (some ⟨b, o4, none⟩) 4 pc4) (.slice (some ⟨b, o8, none⟩) 4 pc8) (.slice (some ⟨b, o14, none⟩) 2 pc14) (.slice aD (n - Q) (cap - Q))) v W [1] := hp
    clear hp
    simp only [putAll, Act.put, List.setIfInBounds_toArray, List.set_cons_zero, List.set_cons_succ, Nat.reduceAdd] at hKK ⊢
    obtain ⟨p1, _⟩ := hp1
    have e1 : v 1 = .slice (some ⟨b, off, none⟩) 2 cap := p1
    simp only [e1] at hKK ⊢
    clear p1 e1
    have HBB := hide hB
    clear hB
    go_simp
    refine (N0.out _ HBB.out.1).mono ?_
    rintro e w2 ⟨rfl, rfl⟩
    go_simp
    refine hKK _ _ (Below.refl _ _) HBB.out.same ?_
    rfl
  refine EachF.one _ _ _ ?_ ?_
  · intro v W fl hfl hB hp KK hKK
    rw [if_pos (by rfl)]
    have hp1 : AllOf (A12d (w.heap.size + 1) b o13 y0 y1 y2 y3 y4 y5 x13 (Q : Int) ps (.slice (some ⟨b, off, none⟩) n cap) (.slice (some ⟨b, off, none⟩) 2 cap) (.slice (some ⟨b, o2, none⟩) 2 pc2) (.slice (some ⟨b, o4, none⟩) 4 pc4) (.slice (some ⟨b, o8, none⟩) 4 pc8) (.slice (some ⟨b, o14, none⟩) 2 pc14) (.slice aD (n - Q) (cap - Q))) v W [] := hp
    clear hp
    simp only [putAll, Act.put, List.setIfInBounds_toArray, List.set_cons_zero, List.set_cons_succ, Nat.reduceAdd] at hKK ⊢
    have HBB := hide hB
    clear hB
    go_simp
    refine hKK _ _ (Below.refl _ _) HBB.out.same ?_
    rfl
  refine EachF.one _ _ _ ?_ ?_
  · intro v W fl hfl hB hp KK hKK
    rw [if_pos (by rfl)]
    have hp1 : AllOf (A12d (w.heap.size + 1) b o13 y0 y1 y2 y3 y4 y5 x13 (Q : Int) ps (.slice (some ⟨b, off, none⟩) n cap) (.slice (some ⟨b, off, none⟩) 2 cap) (.slice (some ⟨b, o2, none⟩) 2 pc2) (.slice (some ⟨b, o4, none⟩) 4 pc4) (.slice (some ⟨b, o8, none⟩) 4 pc8) (.slice (some ⟨b, o14, none⟩) 2 pc14) (.slice aD (n - Q) (cap - Q))) v W [3] := hp
    clear hp
    simp only [putAll, Act.put, List.setIfInBounds_toArray, List.set_cons_zero, List.set_cons_succ, Nat.reduceAdd] at hKK ⊢
    obtain ⟨p3, _⟩ := hp1
    have e3 : v 3 = .slice (some ⟨b, off, none⟩) n cap := p3
    simp only [e3] at hKK ⊢
    clear p3 e3
    have HBB := hide hB
    clear hB
    go_simp
    refine hKK _ _ (Below.refl _ _) HBB.out.same ?_
    rfl
  refine EachF.one _ _ _ ?_ ?_
  · intro v W fl hfl hB hp KK hKK
    rw [if_pos (by rfl)]
    have hp1 : AllOf (A12d (w.heap.size + 1) b o13 y0 y1 y2 y3 y4 y5 x13 (Q : Int) ps (.slice (some ⟨b, off, none⟩) n cap) (.slice (some ⟨b, off, none⟩) 2 cap) (.slice (some ⟨b, o2, none⟩) 2 pc2) (.slice (some ⟨b, o4, none⟩) 4 pc4) (.slice (some ⟨b, o8, none⟩) 4 pc8) (.slice (some ⟨b, o14, none⟩) 2 pc14) (.slice aD (n - Q) (cap - Q))) v W [4, 2] := hp
    clear hp
    simp only [putAll, Act.put, List.setIfInBounds_toArray, List.set_cons_zero, List.set_cons_succ, Nat.reduceAdd] at hKK ⊢
    obtain ⟨p4, p2, _⟩ := hp1
    have e4 : v 4 = .slice (some ⟨b, o2, none⟩) 2 pc2 := p4
    have e2 : v 2 = .int .i64 y0 := p2
    simp only [e4, e2] at hKK ⊢
    clear p4 p2 e4 e2
    have HBB := hide hB
    clear hB
    go_simp
    refine (N2.out _ HBB.out.1).mono ?_
    rintro e w2 ⟨rfl, rfl⟩
    go_simp
    refine hKK _ _ (Below.refl _ _) HBB.out.same ?_
    rfl
  refine EachF.one _ _ _ ?_ ?_
  · intro v W fl hfl hB hp KK hKK
    rw [if_pos (by rfl)]
    have hp1 : AllOf (A12d (w.heap.size + 1) b o13 y0 y1 y2 y3 y4 y5 x13 (Q : Int) ps (.slice (some ⟨b, off, none⟩) n cap) (.slice (some ⟨b, off, none⟩) 2 cap) (.slice (some ⟨b, o2, none⟩) 2 pc2) (.slice (some ⟨b, o4, none⟩) 4 pc4) (.slice (some ⟨b, o8, none⟩) 4 pc8) (.slice (some ⟨b, o14, none⟩) 2 pc14) (.slice aD (n - Q) (cap - Q))) v W [] := hp
    clear hp
    simp only [putAll, Act.put, List.setIfInBounds_toArray, List.set_cons_zero, List.set_cons_succ, Nat.reduceAdd] at hKK ⊢
    have HBB := hide hB
    clear hB
    go_simp
    refine hKK _ _ (Below.refl _ _) HBB.out.same ?_
    rfl
  refine EachF.one _ _ _ ?_ ?_
  · intro v W fl hfl hB hp KK hKK
    rw [if_pos (by rfl)]
    have hp1 : AllOf (A12d (w.heap.size + 1) b o13 y0 y1 y2 y3 y4 y5 x13 (Q : Int) ps (.slice (some ⟨b, off, none⟩) n cap) (.slice (some ⟨b, off, none⟩) 2 cap) (.slice (some ⟨b, o2, none⟩) 2 pc2) (.slice (some ⟨b, o4, none⟩) 4 pc4) (.slice (some ⟨b, o8, none⟩) 4 pc8) (.slice (some ⟨b, o14, none⟩) 2 pc14) (.slice aD (n - Q) (cap - Q))) v W [6] := hp
    clear hp
    simp only [putAll, Act.put, List.setIfInBounds_toArray, List.set_cons_zero, List.set_cons_succ, Nat.reduceAdd] at hKK ⊢
    obtain ⟨p6, _⟩ := hp1
    have e6 : v 6 = .slice (some ⟨b, off, none⟩) n cap := p6
    simp only [e6] at hKK ⊢
    clear p6 e6
    have HBB := hide hB
    clear hB
    go_simp
    refine hKK _ _ (Below.refl _ _) HBB.out.same ?_
    rfl
  refine EachF.one _ _ _ ?_ ?_
  · intro v W fl hfl hB hp KK hKK
    rw [if_pos (by rfl)]
    have hp1 : AllOf (A12d (w.heap.size + 1) b o13 y0 y1 y2 y3 y4 y5 x13 (Q : Int) ps (.slice (some ⟨b, off, none⟩) n cap) (.slice (some ⟨b, off, none⟩) 2 cap) (.slice (some ⟨b, o2, none⟩) 2 pc2) (.slice (some ⟨b, o4, none⟩) 4 pc4) (.slice (some ⟨b, o8, none⟩) 4 pc8) (.slice (some ⟨b, o14, none⟩) 2 pc14) (.slice aD (n - Q) (cap - Q))) v W [7, 5] := hp
    clear hp
    simp only [putAll, Act.put, List.setIfInBounds_toArray, List.set_cons_zero, List.set_cons_succ, Nat.reduceAdd] at hKK ⊢
    obtain ⟨p7, p5, _⟩ := hp1
    have e7 : v 7 = .slice (some ⟨b, o4, none⟩) 4 pc4 := p7
    have e5 : v 5 = .int .i64 y1 := p5
    simp only [e7, e5] at hKK ⊢
    clear p7 p5 e7 e5
    have HBB := hide hB
    clear hB
    go_simp
    refine (N4.out _ HBB.out.1).mono ?_
    rintro e w2 ⟨rfl, rfl⟩
    go_simp
    refine hKK _ _ (Below.refl _ _) HBB.out.same ?_
    rfl
  refine EachF.one _ _ _ ?_ ?_
  · intro v W fl hfl hB hp KK hKK
    rw [if_pos (by rfl)]
    have hp1 : AllOf (A12d (w.heap.size + 1) b o13 y0 y1 y2 y3 y4 y5 x13 (Q : Int) ps (.slice (some ⟨b, off, none⟩) n cap) (.slice (some ⟨b, off, none⟩) 2 cap) (.slice (some ⟨b, o2, none⟩) 2 pc2) (.slice (some ⟨b, o4, none⟩) 4 pc4) (.slice (some ⟨b, o8, none⟩) 4 pc8) (.slice (some ⟨b, o14, none⟩) 2 pc14) (.slice aD (n - Q) (cap - Q))) v W [] := hp
    clear hp
    simp only [putAll, Act.put, List.setIfInBounds_toArray, List.set_cons_zero, List.set_cons_succ, Nat.reduceAdd] at hKK ⊢
    have HBB := hide hB
    clear hB
    go_simp
    refine hKK _ _ (Below.refl _ _) HBB.out.same ?_
    rfl
  refine EachF.one _ _ _ ?_ ?_
  · intro v W fl hfl hB hp KK hKK
    rw [if_pos (by rfl)]
    have hp1 : AllOf (A12d (w.heap.size + 1) b o13 y0 y1 y2 y3 y4 y5 x13 (Q : Int) ps (.slice (some ⟨b, off, none⟩) n cap) (.slice (some ⟨b, off, none⟩) 2 cap) (.slice (some ⟨b, o2, none⟩) 2 pc2) (.slice (some ⟨b, o4, none⟩) 4 pc4) (.slice (some ⟨b, o8, none⟩) 4 pc8) (.slice (some ⟨b, o14, none⟩) 2 pc14) (.slice aD (n - Q) (cap - Q))) v W [9] := hp
    clear hp
    simp only [putAll, Act.put, List.setIfInBounds_toArray, List.set_cons_zero, List.set_cons_succ, Nat.reduceAdd] at hKK ⊢
    obtain ⟨p9, _⟩ := hp1
    have e9 : v 9 = .slice (some ⟨b, off, none⟩) n cap := p9
    simp only [e9] at hKK ⊢
    clear p9 e9
    have HBB := hide hB
    clear hB
    go_simp
    refine hKK _ _ (Below.refl _ _) HBB.out.same ?_
    rfl
  refine EachF.one _ _ _ ?_ ?_
  · intro v W fl hfl hB hp KK hKK
    rw [if_pos (by rfl)]
    have hp1 : AllOf (A12d (w.heap.size + 1) b o13 y0 y1 y2 y3 y4 y5 x13 (Q : Int) ps (.slice (some ⟨b, off, none⟩) n cap) (.slice (some ⟨b, off, none⟩) 2 cap) (.slice (some ⟨b, o2, none⟩) 2 pc2) (.slice (some ⟨b, o4, none⟩) 4 pc4) (.slice (some ⟨b, o8, none⟩) 4 pc8) (.slice (some ⟨b, o14, none⟩) 2 pc14) (.slice aD (n - Q) (cap - Q))) v W [10, 8] := hp
    clear hp
    simp only [putAll, Act.put, List.setIfInBounds_toArray, List.set_cons_zero, List.set_cons_succ, Nat.reduceAdd] at hKK ⊢
    obtain ⟨p10, p8, _⟩ := hp1
    have e10 : v 10 = .slice (some ⟨b, o8, none⟩) 4 pc8 := p10
    have e8 : v 8 = .int .i64 y2 := p8
    simp only [e10, e8] at hKK ⊢
    clear p10 p8 e10 e8
    have HBB := hide hB
    clear hB
    go_simp
    refine (N8.out _ HBB.out.1).mono ?_
    rintro e w2 ⟨rfl, rfl⟩
    go_simp
    refine hKK _ _ (Below.refl _ _) HBB.out.same ?_
    rfl
  refine EachF.one _ _ _ ?_ ?_
  · intro v W fl hfl hB hp KK hKK
    rw [if_pos (by rfl)]
    have hp1 : AllOf (A12d (w.heap.size + 1) b o13 y0 y1 y2 y3 y4 y5 x13 (Q : Int) ps (.slice (some ⟨b, off, none⟩) n cap) (.slice (some ⟨b, off, none⟩) 2 cap) (.slice (some ⟨b, o2, none⟩) 2 pc2) (.slice (some ⟨b, o4, none⟩) 4 pc4) (.slice (some ⟨b, o8, none⟩) 4 pc8) (.slice (some ⟨b, o14, none⟩) 2 pc14) (.slice aD (n - Q) (cap - Q))) v W [] := hp
    clear hp
    simp only [putAll, Act.put, List.setIfInBounds_toArray, List.set_cons_zero, List.set_cons_succ, Nat.reduceAdd] at hKK ⊢
    have HBB := hide hB
    clear hB
    go_simp
    refine hKK _ _ (Below.refl _ _) HBB.out.same ?_
    rfl
  refine EachF.one _ _ _ ?_ ?_
  · intro v W fl hfl hB hp KK hKK
    rw [if_pos (by rfl)]
    have hp1 : AllOf (A12d (w.heap.size + 1) b o13 y0 y1 y2 y3 y4 y5 x13 (Q : Int) ps (.slice (some ⟨b, off, none⟩) n cap) (.slice (some ⟨b, off, none⟩) 2 cap) (.slice (some ⟨b, o2, none⟩) 2 pc2) (.slice (some ⟨b, o4, none⟩) 4 pc4) (.slice (some ⟨b, o8, none⟩) 4 pc8) (.slice (some ⟨b, o14, none⟩) 2 pc14) (.slice aD (n - Q) (cap - Q))) v W [12] := hp
    clear hp
    simp only [putAll, Act.put, List.setIfInBounds_toArray, List.set_cons_zero, List.set_cons_succ, Nat.reduceAdd] at hKK ⊢
    obtain ⟨p12, _⟩ := hp1
    have e12 : v 12 = .slice (some ⟨b, off, none⟩) n cap := p12
    simp only [e12] at hKK ⊢
    clear p12 e12
    have HBB := hide hB
    clear hB
    go_simp
    refine hKK _ _ (Below.refl _ _) HBB.out.same ?_
    exact congrArg (fun q => Value.pointer (some ⟨b, q, none⟩)) HO13.out
  refine EachF.one _ _ _ ?_ ?_
  · intro v W fl hfl hB hp KK hKK
    rw [if_pos (by rfl)]
    have hp1 : AllOf (A12d (w.heap.size + 1) b o13 y0 y1 y2 y3 y4 y5 x13 (Q : Int) ps (.slice (some ⟨b, off, none⟩) n cap) (.slice (some ⟨b, off, none⟩) 2 cap) (.slice (some ⟨b, o2, none⟩) 2 pc2) (.slice (some ⟨b, o4, none⟩) 4 pc4) (.slice (some ⟨b, o8, none⟩) 4 pc8) (.slice (some ⟨b, o14, none⟩) 2 pc14) (.slice aD (n - Q) (cap - Q))) v W [13] := hp
    clear hp
    simp only [putAll, Act.put, List.setIfInBounds_toArray, List.set_cons_zero, List.set_cons_succ, Nat.reduceAdd] at hKK ⊢
    obtain ⟨p13, _⟩ := hp1
    have e13 : v 13 = .pointer (some ⟨b, o13, none⟩) := p13
    simp only [e13] at hKK ⊢
    clear p13 e13
    have HBB := hide hB
    clear hB
    have kk := HC13.out W HBB.out.1
    go_simp
    refine hKK _ _ (Below.refl _ _) HBB.out.same ?_
    rfl
  refine EachF.one _ _ _ ?_ ?_
  · intro v W fl hfl hB hp KK hKK
    rw [if_pos (by rfl)]
    have hp1 : AllOf (A12d (w.heap.size + 1) b o13 y0 y1 y2 y3 y4 y5 x13 (Q : Int) ps (.slice (some ⟨b, off, none⟩) n cap) (.slice (some ⟨b, off, none⟩) 2 cap) (.slice (some ⟨b, o2, none⟩) 2 pc2) (.slice (some ⟨b, o4, none⟩) 4 pc4) (.slice (some ⟨b, o8, none⟩) 4 pc8) (.slice (some ⟨b, o14, none⟩) 2 pc14) (.slice aD (n - Q) (cap - Q))) v W [14] := hp
    clear hp
    simp only [putAll, Act.put, List.setIfInBounds_toArray, List.set_cons_zero, List.set_cons_succ, Nat.reduceAdd] at hKK ⊢
    obtain ⟨p14, _⟩ := hp1
    have e14 : v 14 = .int .u8 x13 := p14
    simp only [e14] at hKK ⊢
    clear p14 e14
    have HBB := hide hB
    clear hB
    go_simp
    refine hKK _ _ (Below.refl _ _) HBB.out.same ?_
    rfl
  refine EachF.one _ _ _ ?_ ?_
  · intro v W fl hfl hB hp KK hKK
    rw [if_pos (by rfl)]
    have hp1 : AllOf (A12d (w.heap.size + 1) b o13 y0 y1 y2 y3 y4 y5 x13 (Q : Int) ps (.slice (some ⟨b, off, none⟩) n cap) (.slice (some ⟨b, off, none⟩) 2 cap) (.slice (some ⟨b, o2, none⟩) 2 pc2) (.slice (some ⟨b, o4, none⟩) 4 pc4) (.slice (some ⟨b, o8, none⟩) 4 pc8) (.slice (some ⟨b, o14, none⟩) 2 pc14) (.slice aD (n - Q) (cap - Q))) v W [15] := hp
    clear hp
    simp only [putAll, Act.put, List.setIfInBounds_toArray, List.set_cons_zero, List.set_cons_succ, Nat.reduceAdd] at hKK ⊢
    obtain ⟨p15, _⟩ := hp1
    have e15 : v 15 = .int .u8 y4 := p15
    simp only [e15] at hKK ⊢
    clear p15 e15
    have HBB := hide hB
    clear hB
    go_simp
    refine hKK _ _ (Below.refl _ _) HBB.out.same ?_
    exact congrArg (Value.int .i64) (wrap_i64' _ HY4.out.1 HY4.out.2)
  refine EachF.one _ _ _ ?_ ?_
  · intro v W fl hfl hB hp KK hKK
    rw [if_pos (by rfl)]
    have hp1 : AllOf (A12d (w.heap.size + 1) b o13 y0 y1 y2 y3 y4 y5 x13 (Q : Int) ps (.slice (some ⟨b, off, none⟩) n cap) (.slice (some ⟨b, off, none⟩) 2 cap) (.slice (some ⟨b, o2, none⟩) 2 pc2) (.slice (some ⟨b, o4, none⟩) 4 pc4) (.slice (some ⟨b, o8, none⟩) 4 pc8) (.slice (some ⟨b, o14, none⟩) 2 pc14) (.slice aD (n - Q) (cap - Q))) v W [] := hp
    clear hp
    simp only [putAll, Act.put, List.setIfInBounds_toArray, List.set_cons_zero, List.set_cons_succ, Nat.reduceAdd] at hKK ⊢
    have HBB := hide hB
    clear hB
    go_simp
    refine hKK _ _ (Below.refl _ _) HBB.out.same ?_
    rfl
  refine EachF.one _ _ _ ?_ ?_
  · intro v W fl hfl hB hp KK hKK
    rw [if_pos (by rfl)]
    have hp1 : AllOf (A12d (w.heap.size + 1) b o13 y0 y1 y2 y3 y4 y5 x13 (Q : Int) ps (.slice (some ⟨b, off, none⟩) n cap) (.slice (some ⟨b, off, none⟩) 2 cap) (.slice (some ⟨b, o2, none⟩) 2 pc2) (.slice (some ⟨b, o4, none⟩) 4 pc4) (.slice (some ⟨b, o8, none⟩) 4 pc8) (.slice (some ⟨b, o14, none⟩) 2 pc14) (.slice aD (n - Q) (cap - Q))) v W [17] := hp
    clear hp
    simp only [putAll, Act.put, List.setIfInBounds_toArray, List.set_cons_zero, List.set_cons_succ, Nat.reduceAdd] at hKK ⊢
    obtain ⟨p17, _⟩ := hp1
    have e17 : v 17 = .slice (some ⟨b, off, none⟩) n cap := p17
    simp only [e17] at hKK ⊢
    clear p17 e17
    have HBB := hide hB
    clear hB
    go_simp
    refine hKK _ _ (Below.refl _ _) HBB.out.same ?_
    rfl
  refine EachF.one _ _ _ ?_ ?_
  · intro v W fl hfl hB hp KK hKK
    rw [if_pos (by rfl)]
    have hp1 : AllOf (A12d (w.heap.size + 1) b o13 y0 y1 y2 y3 y4 y5 x13 (Q : Int) ps (.slice (some ⟨b, off, none⟩) n cap) (.slice (some ⟨b, off, none⟩) 2 cap) (.slice (some ⟨b, o2, none⟩) 2 pc2) (.slice (some ⟨b, o4, none⟩) 4 pc4) (.slice (some ⟨b, o8, none⟩) 4 pc8) (.slice (some ⟨b, o14, none⟩) 2 pc14) (.slice aD (n - Q) (cap - Q))) v W [18, 11] := hp
    clear hp
    simp only [putAll, Act.put, List.setIfInBounds_toArray, List.set_cons_zero, List.set_cons_succ, Nat.reduceAdd] at hKK ⊢
    obtain ⟨p18, p11, _⟩ := hp1
    have e18 : v 18 = .slice (some ⟨b, o14, none⟩) 2 pc14 := p18
    have e11 : v 11 = .int .i64 y3 := p11
    simp only [e18, e11] at hKK ⊢
    clear p18 p11 e18 e11
    have HBB := hide hB
    clear hB
    go_simp
    refine (N14.out _ HBB.out.1).mono ?_
    rintro e w2 ⟨rfl, rfl⟩
    go_simp
    refine hKK _ _ (Below.refl _ _) HBB.out.same ?_
    rfl
  refine EachF.one _ _ _ ?_ ?_
  · intro v W fl hfl hB hp KK hKK
    rw [if_pos (by rfl)]
    have hp1 : AllOf (A12d (w.heap.size + 1) b o13 y0 y1 y2 y3 y4 y5 x13 (Q : Int) ps (.slice (some ⟨b, off, none⟩) n cap) (.slice (some ⟨b, off, none⟩) 2 cap) (.slice (some ⟨b, o2, none⟩) 2 pc2) (.slice (some ⟨b, o4, none⟩) 4 pc4) (.slice (some ⟨b, o8, none⟩) 4 pc8) (.slice (some ⟨b, o14, none⟩) 2 pc14) (.slice aD (n - Q) (cap - Q))) v W [] := hp
    clear hp
    simp only [putAll, Act.put, List.setIfInBounds_toArray, List.set_cons_zero, List.set_cons_succ, Nat.reduceAdd] at hKK ⊢
    have HBB := hide hB
    clear hB
    go_simp
    refine hKK _ _ (Below.refl _ _) HBB.out.same ?_
    rfl
  refine EachF.one _ _ _ ?_ ?_
  · intro v W fl hfl hB hp KK hKK
    rw [if_pos (by rfl)]
    have hp1 : AllOf (A12d (w.heap.size + 1) b o13 y0 y1 y2 y3 y4 y5 x13 (Q : Int) ps (.slice (some ⟨b, off, none⟩) n cap) (.slice (some ⟨b, off, none⟩) 2 cap) (.slice (some ⟨b, o2, none⟩) 2 pc2) (.slice (some ⟨b, o4, none⟩) 4 pc4) (.slice (some ⟨b, o8, none⟩) 4 pc8) (.slice (some ⟨b, o14, none⟩) 2 pc14) (.slice aD (n - Q) (cap - Q))) v W [] := hp
    clear hp
    simp only [putAll, Act.put, List.setIfInBounds_toArray, List.set_cons_zero, List.set_cons_succ, Nat.reduceAdd] at hKK ⊢
    have HBB := hide hB
    clear hB
    go_simp
    refine hKK _ _ (Below.refl _ _) HBB.out.same ?_
    rfl
  refine EachF.one _ _ _ ?_ ?_
  · intro v W fl hfl hB hp KK hKK
    rw [if_pos (by rfl)]
    have hp1 : AllOf (A12d (w.heap.size + 1) b o13 y0 y1 y2 y3 y4 y5 x13 (Q : Int) ps (.slice (some ⟨b, off, none⟩) n cap) (.slice (some ⟨b, off, none⟩) 2 cap) (.slice (some ⟨b, o2, none⟩) 2 pc2) (.slice (some ⟨b, o4, none⟩) 4 pc4) (.slice (some ⟨b, o8, none⟩) 4 pc8) (.slice (some ⟨b, o14, none⟩) 2 pc14) (.slice aD (n - Q) (cap - Q))) v W [20, 21] := hp
    clear hp
    simp only [putAll, Act.put, List.setIfInBounds_toArray, List.set_cons_zero, List.set_cons_succ, Nat.reduceAdd] at hKK ⊢
    obtain ⟨p20, p21, _⟩ := hp1
    have e20 : v 20 = .slice (some ⟨b, off, none⟩) n cap := p20
    have e21 : v 21 = .int .i64 (Q : Int) := p21
    simp only [e20, e21] at hKK ⊢
    clear p20 p21 e20 e21
    have HBB := hide hB
    clear hB
    go_simp
    refine hKK _ _ (Below.refl _ _) HBB.out.same ?_
    rfl
  refine EachF.one _ _ _ ?_ ?_
  · intro v W fl hfl hB hp KK hKK
    rw [if_pos (by rfl)]
    have hp1 : AllOf (A12d (w.heap.size + 1) b o13 y0 y1 y2 y3 y4 y5 x13 (Q : Int) ps (.slice (some ⟨b, off, none⟩) n cap) (.slice (some ⟨b, off, none⟩) 2 cap) (.slice (some ⟨b, o2, none⟩) 2 pc2) (.slice (some ⟨b, o4, none⟩) 4 pc4) (.slice (some ⟨b, o8, none⟩) 4 pc8) (.slice (some ⟨b, o14, none⟩) 2 pc14) (.slice aD (n - Q) (cap - Q))) v W [22, 19] := hp
    clear hp
    simp only [putAll, Act.put, List.setIfInBounds_toArray, List.set_cons_zero, List.set_cons_succ, Nat.reduceAdd] at hKK ⊢
    obtain ⟨p22, p19, _⟩ := hp1
    have e22 : v 22 = .slice aD (n - Q) (cap - Q) := p22
    have e19 : v 19 = .int .i64 y5 := p19
    simp only [e22, e19] at hKK ⊢
    clear p22 p19 e22 e19
    have HBB := hide hB
    clear hB
    go_simp
    refine (CD.out _ HBB.out.1).mono ?_
    rintro e w2 ⟨u, rfl, ho, hb⟩
    go_simp
    refine hKK _ _ hb (HBB.out.next hb) ?_
    exact ho.low (by have := HBB.out.2.lt; omega)
  refine EachF.one _ _ _ ?_ ?_
  · intro v W fl hfl hB hp KK hKK
    rw [if_pos (by rfl)]
    have hp1 : AllOf (A12d (w.heap.size + 1) b o13 y0 y1 y2 y3 y4 y5 x13 (Q : Int) ps (.slice (some ⟨b, off, none⟩) n cap) (.slice (some ⟨b, off, none⟩) 2 cap) (.slice (some ⟨b, o2, none⟩) 2 pc2) (.slice (some ⟨b, o4, none⟩) 4 pc4) (.slice (some ⟨b, o8, none⟩) 4 pc8) (.slice (some ⟨b, o14, none⟩) 2 pc14) (.slice aD (n - Q) (cap - Q))) v W [2, 5, 8, 11, 16, 19, 23] := hp
    clear hp
    simp only [putAll, Act.put, List.setIfInBounds_toArray, List.set_cons_zero, List.set_cons_succ, Nat.reduceAdd] at hKK ⊢
    obtain ⟨p2, p5, p8, p11, p16, p19, p23, _⟩ := hp1
    have e2 : v 2 = .int .i64 y0 := p2
    have e5 : v 5 = .int .i64 y1 := p5
    have e8 : v 8 = .int .i64 y2 := p8
    have e11 : v 11 = .int .i64 y3 := p11
    have e16 : v 16 = .int .i64 y4 := p16
    have e19 : v 19 = .int .i64 y5 := p19
    have o23 := p23
    simp only [e2, e5, e8, e11, e16, e19] at hKK ⊢
    clear p2 p5 p8 p11 p16 p19 e2 e5 e8 e11 e16 e19
    have HBB := hide hB
    clear hB
    obtain ⟨ac, cc, e23, _⟩ := own_slice o23
    rw [e23] at o23
    simp only [e23] at hKK ⊢
    have HO23 := hide o23
    clear o23 e23 p23
    go_simp
    refine hKK _ _ (Below.refl _ _) HBB.out.same ?_
    exact ⟨ac, cc, rfl, HO23.out⟩
  refine EachF.one _ _ _ ?_ ?_
  · intro v W fl hfl hB hp KK hKK
    rw [if_pos (by rfl)]
    have hp1 : AllOf (A12d (w.heap.size + 1) b o13 y0 y1 y2 y3 y4 y5 x13 (Q : Int) ps (.slice (some ⟨b, off, none⟩) n cap) (.slice (some ⟨b, off, none⟩) 2 cap) (.slice (some ⟨b, o2, none⟩) 2 pc2) (.slice (some ⟨b, o4, none⟩) 4 pc4) (.slice (some ⟨b, o8, none⟩) 4 pc8) (.slice (some ⟨b, o14, none⟩) 2 pc14) (.slice aD (n - Q) (cap - Q))) v W [] := hp
    clear hp
    simp only [putAll, Act.put, List.setIfInBounds_toArray, List.set_cons_zero, List.set_cons_succ, Nat.reduceAdd] at hKK ⊢
    have HBB := hide hB
    clear hB
    go_simp
    refine hKK _ _ ((Below.refl _ _).alloc (Nat.le_refl _) _) (HBB.out.next ((Below.refl _ _).alloc (Nat.le_refl _) _)) ?_
    exact ⟨_, rfl, heap_alloc_new _ _, by have := HBB.out.2.lt; omega⟩
  · exact trivial
  intro v W fl hfl hB hA KK hKK
  rw [if_pos (by rfl)]
  simp only [List.dropLast, putAll, Act.put, List.setIfInBounds_toArray, List.set_cons_zero, List.set_cons_succ, Nat.reduceAdd]
  have o24 := hA 24 (by decide)
  have o25 := hA 25 (by decide)
  obtain ⟨ac, cc, e24, ho⟩ := o24
  obtain ⟨Y, e25, hY, hYn⟩ := o25
  simp only [e24, e25]
  clear e24 e25 hA
  generalize v 0 = g0; generalize v 1 = g1; generalize v 2 = g2; generalize v 3 = g3; generalize v 4 = g4; generalize v 5 = g5; generalize v 6 = g6; generalize v 7 = g7; generalize v 8 = g8; generalize v 9 = g9; generalize v 10 = g10; generalize v 11 = g11; generalize v 12 = g12; generalize v 13 = g13; generalize v 14 = g14; generalize v 15 = g15; generalize v 16 = g16; generalize v 17 = g17; generalize v 18 = g18; generalize v 19 = g19; generalize v 20 = g20; generalize v 21 = g21; generalize v 22 = g22; generalize v 23 = g23
  have HBB := hide hB; have HO := hide ho; have HYY := hide hY
  clear hB ho hY
  have a0 := HYY.out.cell 0 _ rfl; have a1 := HYY.out.cell 1 _ rfl; have a2 := HYY.out.cell 2 _ rfl; have a3 := HYY.out.cell 3 _ rfl; have a4 := HYY.out.cell 4 _ rfl; have a5 := HYY.out.cell 5 _ rfl; have a6 := HYY.out.cell 6 _ rfl; have a7 := HYY.out.cell 7 _ rfl; have a8 := HYY.out.cell 8 _ rfl; have a9 := HYY.out.cell 9 _ rfl; have a10 := HYY.out.cell 10 _ rfl; have a11 := HYY.out.cell 11 _ rfl; have af := HYY.out.frozen
  go_simp
  refine hKK _ _ ?_
  clear hKK
  refine ret12 (P := fun X => Exit.then _ _ Exit.normal _ X) HYY.out ?_
  intro V hV hg
  have hYr : w.heap.size ≠ Y := by omega
  have hOne := own_ned HO.out HYY.out trivial
  have HVO := hide (own_gr HO.out hg hOne)
  have HVB := hide (HBB.out.1.grown hg HBB.out.1.size (fun k hk => by cases hk; omega))
  have HVR := hide (show HoldV V w.heap.size _ sgT from (hg.block _ HBB.out.2.lt (fun e => hYr (by injection e))).trans HBB.out.2)
  have HVY := hide hV
  clear hV hg hOne HBB HO HYY a0 a1 a2 a3 a4 a5 a6 a7 a8 a9 a10 a11 af
  have a0 := HVY.out.cell 0 _ rfl; have a1 := HVY.out.cell 1 _ rfl; have a2 := HVY.out.cell 2 _ rfl; have a3 := HVY.out.cell 3 _ rfl; have a4 := HVY.out.cell 4 _ rfl; have a5 := HVY.out.cell 5 _ rfl; have a6 := HVY.out.cell 6 _ rfl; have a7 := HVY.out.cell 7 _ rfl; have a8 := HVY.out.cell 8 _ rfl; have a9 := HVY.out.cell 9 _ rfl; have a10 := HVY.out.cell 10 _ rfl; have a11 := HVY.out.cell 11 _ rfl; have af := HVY.out.frozen
  obtain ⟨ok, hok⟩ : ∃ o, (rdO os ⟨0, false, 0, false, []⟩).isSome = o := ⟨_, rfl⟩
  have hown : OwnI V.drew (w.heap.size + 1) 53 2 (.slice none 0 0) 0 [] := ⟨rfl, .inl ⟨rfl, rfl⟩⟩
  have CR := hide (l11ReadOptions_walk y0 y1 y2 y3 y4 y5 ⟨0, false, 0, false, []⟩ 0 (w.heap.size + 1) none 0 0 ac ps.length cc aO (Q - 20) (cap - 20) os V.drew hown (by have := HVR.out.lt; show w.heap.size + 1 ≤ V.heap.size; omega) HLO.out (HAO.out V.drew HVB.out.drew) (by omega) (by have := HQ6.out; omega) ok hok)
  have q2 := hide (fun (W' : World) (hb : Below V.drew.heap.size V.drew W') => (⟨below_on HVB.out.drew hb, HoldV.next (show HoldV V.drew _ _ sgT from HVR.out) hb, OwnB.nx (w := V.drew) HVO.out hb, HoldV.next (show HoldV V.drew _ _ sgT from HVY.out) hb⟩ : Below w.heap.size w W' ∧ HoldV W' w.heap.size _ sgT ∧ OwnB W' (w.heap.size + 1) _ ps ∧ HoldV W' Y _ sgT))
  have HOK := hide hok
  clear hok hown
  go_upto_region 13 with fail
  go_region_with (go_at_call 40; refine CR.out.mono ?_; rintro e W9 ⟨st, aa, na, ca, ra, rfl, hb9, ho9, hr9⟩; have HQ := hide (q2.out W9 hb9); have HOI := hide ho9; have HRS := hide hr9; have HY9 := hide HQ.out.2.2.2; clear hb9 ho9 hr9; have z0 := HY9.out.cell 0 _ rfl; have z1 := HY9.out.cell 1 _ rfl; have z2 := HY9.out.cell 2 _ rfl; have z3 := HY9.out.cell 3 _ rfl; have z4 := HY9.out.cell 4 _ rfl; have z5 := HY9.out.cell 5 _ rfl; have z6 := HY9.out.cell 6 _ rfl; have z7 := HY9.out.cell 7 _ rfl; have z8 := HY9.out.cell 8 _ rfl; have z9 := HY9.out.cell 9 _ rfl; have z10 := HY9.out.cell 10 _ rfl; have z11 := HY9.out.cell 11 _ rfl; have af9 := HY9.out.frozen)
  refine ret12 (P := fun X => Exit.then _ _ Exit.normal _ X) HY9.out ?_
  intro V2 hV2 hg2
  have HB2 := hide (HQ.out.1.grown hg2 HQ.out.1.size (fun k hk => by cases hk; omega))
  have HR2 := hide (show HoldV V2 w.heap.size _ sgT from (hg2.block _ HQ.out.2.1.lt (fun e => hYr (by injection e))).trans HQ.out.2.1)
  have HO2 := hide (own_gr HQ.out.2.2.1 hg2 (own_ned HQ.out.2.2.1 HY9.out trivial))
  have HI2 := hide (owni_gr HOI.out hg2 (owni_ne HOI.out HY9.out))
  have HY2 := hide hV2
  clear hV2 hg2 HQ HOI HY9 af9 z0 z1 z2 z3 z4 z5 z6 z7 z8 z9 z10 z11
  have z0 := HY2.out.cell 0 _ rfl; have z1 := HY2.out.cell 1 _ rfl; have z2 := HY2.out.cell 2 _ rfl; have z3 := HY2.out.cell 3 _ rfl; have z4 := HY2.out.cell 4 _ rfl; have z5 := HY2.out.cell 5 _ rfl; have z6 := HY2.out.cell 6 _ rfl; have z7 := HY2.out.cell 7 _ rfl; have z8 := HY2.out.cell 8 _ rfl; have z9 := HY2.out.cell 9 _ rfl; have z10 := HY2.out.cell 10 _ rfl; have z11 := HY2.out.cell 11 _ rfl
  have zf := HY2.out.frozen
  have r0 := HR2.out.cell 0 _ rfl; have r1 := HR2.out.cell 1 _ rfl; have r2 := HR2.out.cell 2 _ rfl; have r3 := HR2.out.cell 3 _ rfl; have r4 := HR2.out.cell 4 _ rfl; have r5 := HR2.out.cell 5 _ rfl; have r6 := HR2.out.cell 6 _ rfl; have r7 := HR2.out.cell 7 _ rfl; have r8 := HR2.out.cell 8 _ rfl; have r9 := HR2.out.cell 9 _ rfl; have r10 := HR2.out.cell 10 _ rfl; have r11 := HR2.out.cell 11 _ rfl
  have rf := HR2.out.frozen
  cases ok with
  | false =>
    have HN : Hid (rdO os ⟨0, false, 0, false, []⟩ = none) := hide (by have := HOK.out; cases h : rdO os ⟨0, false, 0, false, []⟩ with | none => rfl | some x => rw [h] at this; cases this)
    go_wp2_with fail
    refine ret12 (P := fun X => bodyPost Tryd.prog Tryd.f12 _ _ _ X) HR2.out ?_
    intro V3 hV3 hg3
    have HB3 := hide (HB2.out.grown hg3 HB2.out.size (fun k hk => by cases hk; omega))
    clear r0 r1 r2 r3 r4 r5 r6 r7 r8 r9 r10 r11 rf
    have HR3 := hide hV3
    have r0 := HR3.out.cell 0 _ rfl; have r1 := HR3.out.cell 1 _ rfl; have r2 := HR3.out.cell 2 _ rfl; have r3 := HR3.out.cell 3 _ rfl; have r4 := HR3.out.cell 4 _ rfl; have r5 := HR3.out.cell 5 _ rfl; have r6 := HR3.out.cell 6 _ rfl; have r7 := HR3.out.cell 7 _ rfl; have r8 := HR3.out.cell 8 _ rfl; have r9 := HR3.out.cell 9 _ rfl; have r10 := HR3.out.cell 10 _ rfl; have r11 := HR3.out.cell 11 _ rfl
    exact bodyPost_ret (v := .tuple #[.agg #[.int .i64 0, .int .i64 0, .int .i64 0, .int .i64 0, .int .i64 0, .int .i64 0, .int .i64 0, .bool false, .int .i64 0, .bool false, .slice none 0 0, .slice none 0 0], .int .i64 10]) (by simp [results, Tryd.results12, go_sem, r0, r1, r2, r3, r4, r5, r6, r7, r8, r9, r10, r11]) rfl (.inl ⟨HN.out, rfl, HB3.out⟩)
  | true =>
    have HN : Hid (rdO os ⟨0, false, 0, false, []⟩ = some st) := hide (by have := HOK.out; have h2 := HRS.out; cases h : rdO os ⟨0, false, 0, false, []⟩ with | none => rw [h] at this; cases this | some x => rw [h] at h2; simp at h2; rw [h2])
    go_wp2_with fail
    refine ret12 (P := fun X => bodyPost Tryd.prog Tryd.f12 _ _ _ X) HR2.out ?_
    intro V3 hV3 hg3
    have HB3 := hide (HB2.out.grown hg3 HB2.out.size (fun k hk => by cases hk; omega))
    have HO3 := hide (own_gr HO2.out hg3 (fun k hk e => by have := (HO2.out.1.lt k hk).1; omega))
    have HI3 := hide (owni_gr HI2.out hg3 (fun k hk e => by have := (ownsAt.lt HI2.out k hk).1; omega))
    clear r0 r1 r2 r3 r4 r5 r6 r7 r8 r9 r10 r11 rf
    have HR3 := hide hV3
    have r0 := HR3.out.cell 0 _ rfl; have r1 := HR3.out.cell 1 _ rfl; have r2 := HR3.out.cell 2 _ rfl; have r3 := HR3.out.cell 3 _ rfl; have r4 := HR3.out.cell 4 _ rfl; have r5 := HR3.out.cell 5 _ rfl; have r6 := HR3.out.cell 6 _ rfl; have r7 := HR3.out.cell 7 _ rfl; have r8 := HR3.out.cell 8 _ rfl; have r9 := HR3.out.cell 9 _ rfl; have r10 := HR3.out.cell 10 _ rfl; have r11 := HR3.out.cell 11 _ rfl
    have hra : st.L.length / 2 = ra := by have := OwnI.len HI3.out; omega
    exact bodyPost_ret (v := .tuple #[.agg #[.int .i64 y0, .int .i64 y1, .int .i64 y2, .int .i64 y3, .int .i64 y4, .int .i64 y5, .int .i64 st.m, .bool st.hs, .int .i64 st.sc, .bool st.so, .slice aa na ca, .slice ac ps.length cc], .int .i64 0]) (by simp [results, Tryd.results12, go_sem, r0, r1, r2, r3, r4, r5, r6, r7, r8, r9, r10, r11]) rfl (.inr ⟨st, _, _, HN.out, rfl, by rw [hra]; exact ownsAt.mono HI3.out (by omega), HO3.out.low (by omega), own_apart3 HI3.out HO3.out, HB3.out⟩)
end Go.Proofs.YtcnfnimgpiaamaaDoor
