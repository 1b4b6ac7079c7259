/-
Contracts of functions of this seat.
-/
import Derived.Test.YthbkhfiadkookaaGreatDoorRows
import Derived.WalkKit
import Derived.ProofKit
import Derived.OpenShut
import Derived.Deep.QuietTactic
import Derived.Below
import Derived.Laws.Externs
import Derived.OwnWalk
import Derived.BigQuiet
import Derived.ArgAppend
import Derived.RegionTactic
import Derived.ChangeAlike
import Derived.Laws.IdiomStrings
import Derived.Laws.BytesArg
import Derived.Deep.RegionHeld3
import Derived.Deep.CutRange
import Derived.LaidEql
import Derived.Stop.Asserts
import Derived.RowKitTokens
import Derived.Laws.CopyOwn
import Derived.Laws.OwnMore
import Derived.StillTailTactics
import Derived.Lib.QuietBelow
import Derived.Test.YthbkhfiadkookaaGreatDoorPh
namespace Go.Proofs.YthbkhfiadkookaaGreatDoor
open Go.ChangeShapes Go.WideShapes Go.ChangeAt Go.RowKit
set_option linter.unusedVariables false
set_option maxRecDepth 100000
set_option maxRecDepth 100000
theorem OwnB.nx {w w' : World} {B : Nat} {v : Value} {zs : List Int} (h : OwnB w B v zs) (hb : Below w.heap.size w w') : OwnB w' B v zs := by
  refine ⟨⟨h.1.1, ?_⟩, h.2⟩
  rcases h.1.2 with hn | ⟨r, cap, cur, hv, hr, hc, rest⟩
  · exact .inl hn
  · exact .inr ⟨r, cap, cur, hv, hr, (hb.block r (Array.getElem?_eq_some_iff.1 hc).1).trans hc, rest⟩
/-- Zeros in memory of one's own. -/
theorem zeros_own (w : World) (n B : Nat) (hB : B ≤ w.heap.size) (hn : n ≤ 1048576) : OwnB (w.alloc (.cells (bval (List.replicate n 0)).toArray 5)) B (.slice (some ⟨w.heap.size, 0, none⟩) n n) (List.replicate n 0) := by
  have h := World.ownsRow_lit (base := B) (e := 5) (size := 1) w (bval (List.replicate n 0)).toArray n hB (by unfold maxLen; omega) (by simp [bval])
  refine ⟨?_, by intro z hz; rw [List.mem_replicate] at hz; omega⟩
  rw [List.length_replicate]
  simpa using h
/-- What each operation leaves where the payload is made anew. -/
def A17 (g N yn B : Nat) (qa : Option Addr) (qc : Nat) : Nat → Value → World → Prop
  | 0, v, _ => v = .pointer (some ⟨N, 9, none⟩)
  | 1, v, _ => v = .slice qa yn qc
  | 2, v, _ => v = .int .i64 (yn : Int)
  | 3, v, _ => v = .int .i64 (65515 - (yn : Int))
  | 4, v, _ => v = .pointer (some ⟨g, 0, none⟩)
  | 5, v, _ => ∃ s : Int, v = .int .i64 s ∧ 0 ≤ s ∧ s < 2
  | 6, v, _ => ∃ m : Nat, v = .int .i64 (m : Int) ∧ m ≤ 65516
  | 7, v, W => ∃ m M : Nat, v = .slice (some ⟨M, 0, none⟩) m m ∧ OwnB W B v (List.replicate m 0) ∧ m ≤ 65516 ∧ N + 1 < M
  | 8, v, _ => v = .pointer (some ⟨N, 10, none⟩)
  | _, _, _ => True
theorem A17_kept {g N yn B : Nat} {qa : Option Addr} {qc : Nat} (hgB : g < B) : ∀ (k : Nat) (v : Value) (W W' : World), W.grownBy W' (some g) → A17 g N yn B qa qc k v W → A17 g N yn B qa qc k v W' := by
  intro k v W W' hg h
  unfold A17 at h ⊢
  split at h
  all_goals first
    | exact h
    | (obtain ⟨m, M, e, ho, r⟩ := h; exact ⟨m, M, e, ho.gr hg hgB, r⟩)
set_option maxHeartbeats 8000000 in
theorem l05Bend_walk (g : Nat) (zs : List Int) (w : World) (a : Option Addr) (cap : Nat) (harr : Arr w a zs) (hsrc : SrcA w g srT zs.length a cap) (hl : zs.length ≤ 2097152) (B : Nat) (hgB : g < B) (hBw : B ≤ w.heap.size)
    (x0 x1 : Int) (x2 x3 : Bool) (x4 x5 x6 x7 x8 : Int) (qa : Option Addr) (yn qc : Nat) (ua : Option Addr) (zn uc : Nat) (ys z : List Int) (hyn : ys.length = yn) (hzn : z.length = zn) (hy : yn ≤ 40) (hz : zn ≤ 1000) (hq : OwnB w B (.slice qa yn qc) ys) (hO : OwnB w B (.slice ua zn uc) z) (hap : ∀ b, (Value.slice qa yn qc).ownBlock = some b → (Value.slice ua zn uc).ownBlock ≠ some b) :
    Calls Tryz.prog 56 #[.pointer (some ⟨g, 0, none⟩), .agg #[.int .i64 x0, .int .i64 x1, .bool x2, .bool x3, .int .i64 x4, .int .i64 x5, .int .i64 x6, .int .i64 x7, .int .i64 x8, .slice qa yn qc, .slice ua zn uc]] w fun e w' => ∃ v, e = .returned v ∧ PkV w' B v 44 65516 ∧ w.grownBy w' (some g) ∧ SrcA w' g srT zs.length a cap := by
  obtain ⟨hb2, hbP, hbX⟩ := two_allocs w (.cells #[.int .i64 x0, .int .i64 x1, .bool x2, .bool x3, .int .i64 x4, .int .i64 x5, .int .i64 x6, .int .i64 x7, .int .i64 x8, .slice qa yn qc, .slice ua zn uc] pkT) (.cells #[.int .i64 0, .int .i64 0, .bool false, .bool false, .int .i64 0, .int .i64 0, .int .i64 0, .int .i64 0, .int .i64 0, .slice none 0 0, .slice none 0 0] pkT)
  have HD0 := hide (((DSr.start harr hsrc).next hb2))
  have HP0 : Hid (HoldV _ w.heap.size _ pkT) := hide hbP
  have HX0 : Hid (HoldV _ (w.heap.size + 1) _ pkT) := hide hbX
  have hsz : ∀ v : Value, ∀ l, OwnB w B v l → ∀ k, v.ownBlock = some k → k < w.heap.size := fun v l h k hk => (h.1.lt k hk).2
  have hq0 := hsz _ _ hq
  have hO0 := hsz _ _ hO
  have HQ0 := hide (hq.nx hb2)
  have HO0 := hide (hO.nx hb2)
  have hgw : g < w.heap.size := hsrc.lt
  have HA := hide harr
  have HS := hide hsrc
  have HAP := hide hap
  have HYN := hide hyn
  have HZN := hide hzn
  clear harr hsrc hb2 hbP hbX hq hO hap hsz hyn hzn
  go_enter Tryz.func56, Tryz.ntmps56
  go_wp2_with fail
  generalize hW : ((w.alloc (.cells #[.int .i64 x0, .int .i64 x1, .bool x2, .bool x3, .int .i64 x4, .int .i64 x5, .int .i64 x6, .int .i64 x7, .int .i64 x8, .slice qa yn qc, .slice ua zn uc] pkT)).alloc (.cells #[.int .i64 0, .int .i64 0, .bool false, .bool false, .int .i64 0, .int .i64 0, .int .i64 0, .int .i64 0, .int .i64 0, .slice none 0 0, .slice none 0 0] pkT)) = W0 at *
  clear hW
  generalize hN : w.heap.size = N at *
  refine (l01Next_walk g 40 zs _ a cap HD0.out.1 HD0.out.2.1 (by omega) (by omega) hl).mono ?_
  rintro e w1 ⟨r, rfl, r0, r1, hg1, hs1⟩
  have HD1 := hide (HD0.out.step hg1 hs1)
  have HP1 := hide (HP0.out.gr hg1 (show N ≠ g by omega))
  have HX1 := hide (HX0.out.gr hg1 (show N + 1 ≠ g by omega))
  have HQ1 := hide (HQ0.out.gr hg1 hgB)
  have HO1 := hide (HO0.out.gr hg1 hgB)
  clear hg1 hs1 HD0 HP0 HX0 HQ0 HO0
  rcases (show r = 0 ∨ r = 1 ∨ r = 2 ∨ r = 3 ∨ r = 4 ∨ r = 5 ∨ r = 6 ∨ r = 7 ∨ r = 8 ∨ r = 9 ∨ 10 ≤ r by omega) with rfl | rfl | rfl | rfl | rfl | rfl | rfl | rfl | rfl | rfl | hr
  · -- 0
    have hG : World.grownBy w1 (w1.setCell ⟨N, 0, none⟩ (.int .i64 256)) (some N) := gset (grown_refl _ _) _ _
    have HP2 : Hid (HoldV (w1.setCell ⟨N, 0, none⟩ (.int .i64 256)) N #[.int .i64 256, .int .i64 x1, .bool x2, .bool x3, .int .i64 x4, .int .i64 x5, .int .i64 x6, .int .i64 x7, .int .i64 x8, .slice qa yn qc, .slice ua zn uc] pkT) := hide (HP1.out.putc 0 _)
    have HD2 := hide (HD1.out.put HA.out HS.out hG (by omega))
    have HX2 := hide (HX1.out.gr hG (by omega))
    have HQ2 := hide (HQ1.out.gr2 hG (fun k hk => by have := hq0 k hk; omega))
    have HO2 := hide (HO1.out.gr2 hG (fun k hk => by have := hO0 k hk; omega))
    have cc := HP1.out.cell 0 _ rfl; have cf := HP1.out.frozen 0
    clear hG
    have hx0 := HP2.out.cell 0 _ rfl; have hx1 := HP2.out.cell 1 _ rfl; have hx2 := HP2.out.cell 2 _ rfl; have hx3 := HP2.out.cell 3 _ rfl; have hx4 := HP2.out.cell 4 _ rfl; have hx5 := HP2.out.cell 5 _ rfl; have hx6 := HP2.out.cell 6 _ rfl; have hx7 := HP2.out.cell 7 _ rfl; have hx8 := HP2.out.cell 8 _ rfl; have hx9 := HP2.out.cell 9 _ rfl; have hx10 := HP2.out.cell 10 _ rfl
    have hr0 := HX2.out.cell 0 _ rfl; have hr1 := HX2.out.cell 1 _ rfl; have hr2 := HX2.out.cell 2 _ rfl; have hr3 := HX2.out.cell 3 _ rfl; have hr4 := HX2.out.cell 4 _ rfl; have hr5 := HX2.out.cell 5 _ rfl; have hr6 := HX2.out.cell 6 _ rfl; have hr7 := HX2.out.cell 7 _ rfl; have hr8 := HX2.out.cell 8 _ rfl; have hr9 := HX2.out.cell 9 _ rfl; have hr10 := HX2.out.cell 10 _ rfl; have hrf := HX2.out.frozen
    have hGN : World.grownBy (w1.setCell ⟨N, 0, none⟩ (.int .i64 256)) ((((((((((((w1.setCell ⟨N, 0, none⟩ (.int .i64 256)).setCell ⟨N + 1, 0, none⟩ (.int .i64 256)).setCell ⟨N + 1, 1, none⟩ (.int .i64 x1)).setCell ⟨N + 1, 2, none⟩ (.bool x2)).setCell ⟨N + 1, 3, none⟩ (.bool x3)).setCell ⟨N + 1, 4, none⟩ (.int .i64 x4)).setCell ⟨N + 1, 5, none⟩ (.int .i64 x5)).setCell ⟨N + 1, 6, none⟩ (.int .i64 x6)).setCell ⟨N + 1, 7, none⟩ (.int .i64 x7)).setCell ⟨N + 1, 8, none⟩ (.int .i64 x8)).setCell ⟨N + 1, 9, none⟩ (.slice qa yn qc)).setCell ⟨N + 1, 10, none⟩ (.slice ua zn uc)) (some (N + 1)) := set11 _ (N + 1) _ _ _ _ _ _ _ _ _ _ _
    have HOz := hide (HO2.out.gr2 hGN (fun k hk => by have := hO0 k hk; omega))
    have HQz := hide (HQ2.out.gr2 hGN (fun k hk => by have := hq0 k hk; omega))
    have HDz := hide (HD2.out.put HA.out HS.out hGN (by omega))
    clear hGN
    go_wp2_with fail
    subst hN
    exact bodyPost_ret (v := .agg #[.int .i64 256, .int .i64 x1, .bool x2, .bool x3, .int .i64 x4, .int .i64 x5, .int .i64 x6, .int .i64 x7, .int .i64 x8, .slice qa yn qc, .slice ua zn uc]) (by simp [results, Tryz.results56, go_sem, hr0, hr1, hr2, hr3, hr4, hr5, hr6, hr7, hr8, hr9, hr10]) rfl ⟨_, rfl, ⟨_, _, _, _, _, _, _, _, _, _, _, ys, z, rfl, by rw [HYN.out]; omega, by rw [HZN.out]; omega, HQz.out, HOz.out, HAP.out⟩, HDz.out.2.2.1, HDz.out.2.1⟩
  · -- 1
    have hG : World.grownBy w1 (w1.setCell ⟨N, 1, none⟩ (.int .i64 (-1))) (some N) := gset (grown_refl _ _) _ _
    have HP2 : Hid (HoldV (w1.setCell ⟨N, 1, none⟩ (.int .i64 (-1))) N #[.int .i64 x0, .int .i64 (-1), .bool x2, .bool x3, .int .i64 x4, .int .i64 x5, .int .i64 x6, .int .i64 x7, .int .i64 x8, .slice qa yn qc, .slice ua zn uc] pkT) := hide (HP1.out.putc 1 _)
    have HD2 := hide (HD1.out.put HA.out HS.out hG (by omega))
    have HX2 := hide (HX1.out.gr hG (by omega))
    have HQ2 := hide (HQ1.out.gr2 hG (fun k hk => by have := hq0 k hk; omega))
    have HO2 := hide (HO1.out.gr2 hG (fun k hk => by have := hO0 k hk; omega))
    have cc := HP1.out.cell 1 _ rfl; have cf := HP1.out.frozen 1
    clear hG
    have hx0 := HP2.out.cell 0 _ rfl; have hx1 := HP2.out.cell 1 _ rfl; have hx2 := HP2.out.cell 2 _ rfl; have hx3 := HP2.out.cell 3 _ rfl; have hx4 := HP2.out.cell 4 _ rfl; have hx5 := HP2.out.cell 5 _ rfl; have hx6 := HP2.out.cell 6 _ rfl; have hx7 := HP2.out.cell 7 _ rfl; have hx8 := HP2.out.cell 8 _ rfl; have hx9 := HP2.out.cell 9 _ rfl; have hx10 := HP2.out.cell 10 _ rfl
    have hr0 := HX2.out.cell 0 _ rfl; have hr1 := HX2.out.cell 1 _ rfl; have hr2 := HX2.out.cell 2 _ rfl; have hr3 := HX2.out.cell 3 _ rfl; have hr4 := HX2.out.cell 4 _ rfl; have hr5 := HX2.out.cell 5 _ rfl; have hr6 := HX2.out.cell 6 _ rfl; have hr7 := HX2.out.cell 7 _ rfl; have hr8 := HX2.out.cell 8 _ rfl; have hr9 := HX2.out.cell 9 _ rfl; have hr10 := HX2.out.cell 10 _ rfl; have hrf := HX2.out.frozen
    have hGN : World.grownBy (w1.setCell ⟨N, 1, none⟩ (.int .i64 (-1))) ((((((((((((w1.setCell ⟨N, 1, none⟩ (.int .i64 (-1))).setCell ⟨N + 1, 0, none⟩ (.int .i64 x0)).setCell ⟨N + 1, 1, none⟩ (.int .i64 (-1))).setCell ⟨N + 1, 2, none⟩ (.bool x2)).setCell ⟨N + 1, 3, none⟩ (.bool x3)).setCell ⟨N + 1, 4, none⟩ (.int .i64 x4)).setCell ⟨N + 1, 5, none⟩ (.int .i64 x5)).setCell ⟨N + 1, 6, none⟩ (.int .i64 x6)).setCell ⟨N + 1, 7, none⟩ (.int .i64 x7)).setCell ⟨N + 1, 8, none⟩ (.int .i64 x8)).setCell ⟨N + 1, 9, none⟩ (.slice qa yn qc)).setCell ⟨N + 1, 10, none⟩ (.slice ua zn uc)) (some (N + 1)) := set11 _ (N + 1) _ _ _ _ _ _ _ _ _ _ _
    have HOz := hide (HO2.out.gr2 hGN (fun k hk => by have := hO0 k hk; omega))
    have HQz := hide (HQ2.out.gr2 hGN (fun k hk => by have := hq0 k hk; omega))
    have HDz := hide (HD2.out.put HA.out HS.out hGN (by omega))
    clear hGN
    go_wp2_with fail
    subst hN
    exact bodyPost_ret (v := .agg #[.int .i64 x0, .int .i64 (-1), .bool x2, .bool x3, .int .i64 x4, .int .i64 x5, .int .i64 x6, .int .i64 x7, .int .i64 x8, .slice qa yn qc, .slice ua zn uc]) (by simp [results, Tryz.results56, go_sem, hr0, hr1, hr2, hr3, hr4, hr5, hr6, hr7, hr8, hr9, hr10]) rfl ⟨_, rfl, ⟨_, _, _, _, _, _, _, _, _, _, _, ys, z, rfl, by rw [HYN.out]; omega, by rw [HZN.out]; omega, HQz.out, HOz.out, HAP.out⟩, HDz.out.2.2.1, HDz.out.2.1⟩
  · -- 2
    have hG : World.grownBy w1 (w1.setCell ⟨N, 4, none⟩ (.int .i64 4)) (some N) := gset (grown_refl _ _) _ _
    have HP2 : Hid (HoldV (w1.setCell ⟨N, 4, none⟩ (.int .i64 4)) N #[.int .i64 x0, .int .i64 x1, .bool x2, .bool x3, .int .i64 4, .int .i64 x5, .int .i64 x6, .int .i64 x7, .int .i64 x8, .slice qa yn qc, .slice ua zn uc] pkT) := hide (HP1.out.putc 4 _)
    have HD2 := hide (HD1.out.put HA.out HS.out hG (by omega))
    have HX2 := hide (HX1.out.gr hG (by omega))
    have HQ2 := hide (HQ1.out.gr2 hG (fun k hk => by have := hq0 k hk; omega))
    have HO2 := hide (HO1.out.gr2 hG (fun k hk => by have := hO0 k hk; omega))
    have cc := HP1.out.cell 4 _ rfl; have cf := HP1.out.frozen 4
    clear hG
    have hx0 := HP2.out.cell 0 _ rfl; have hx1 := HP2.out.cell 1 _ rfl; have hx2 := HP2.out.cell 2 _ rfl; have hx3 := HP2.out.cell 3 _ rfl; have hx4 := HP2.out.cell 4 _ rfl; have hx5 := HP2.out.cell 5 _ rfl; have hx6 := HP2.out.cell 6 _ rfl; have hx7 := HP2.out.cell 7 _ rfl; have hx8 := HP2.out.cell 8 _ rfl; have hx9 := HP2.out.cell 9 _ rfl; have hx10 := HP2.out.cell 10 _ rfl
    have hr0 := HX2.out.cell 0 _ rfl; have hr1 := HX2.out.cell 1 _ rfl; have hr2 := HX2.out.cell 2 _ rfl; have hr3 := HX2.out.cell 3 _ rfl; have hr4 := HX2.out.cell 4 _ rfl; have hr5 := HX2.out.cell 5 _ rfl; have hr6 := HX2.out.cell 6 _ rfl; have hr7 := HX2.out.cell 7 _ rfl; have hr8 := HX2.out.cell 8 _ rfl; have hr9 := HX2.out.cell 9 _ rfl; have hr10 := HX2.out.cell 10 _ rfl; have hrf := HX2.out.frozen
    have hGN : World.grownBy (w1.setCell ⟨N, 4, none⟩ (.int .i64 4)) ((((((((((((w1.setCell ⟨N, 4, none⟩ (.int .i64 4)).setCell ⟨N + 1, 0, none⟩ (.int .i64 x0)).setCell ⟨N + 1, 1, none⟩ (.int .i64 x1)).setCell ⟨N + 1, 2, none⟩ (.bool x2)).setCell ⟨N + 1, 3, none⟩ (.bool x3)).setCell ⟨N + 1, 4, none⟩ (.int .i64 4)).setCell ⟨N + 1, 5, none⟩ (.int .i64 x5)).setCell ⟨N + 1, 6, none⟩ (.int .i64 x6)).setCell ⟨N + 1, 7, none⟩ (.int .i64 x7)).setCell ⟨N + 1, 8, none⟩ (.int .i64 x8)).setCell ⟨N + 1, 9, none⟩ (.slice qa yn qc)).setCell ⟨N + 1, 10, none⟩ (.slice ua zn uc)) (some (N + 1)) := set11 _ (N + 1) _ _ _ _ _ _ _ _ _ _ _
    have HOz := hide (HO2.out.gr2 hGN (fun k hk => by have := hO0 k hk; omega))
    have HQz := hide (HQ2.out.gr2 hGN (fun k hk => by have := hq0 k hk; omega))
    have HDz := hide (HD2.out.put HA.out HS.out hGN (by omega))
    clear hGN
    go_wp2_with fail
    subst hN
    exact bodyPost_ret (v := .agg #[.int .i64 x0, .int .i64 x1, .bool x2, .bool x3, .int .i64 4, .int .i64 x5, .int .i64 x6, .int .i64 x7, .int .i64 x8, .slice qa yn qc, .slice ua zn uc]) (by simp [results, Tryz.results56, go_sem, hr0, hr1, hr2, hr3, hr4, hr5, hr6, hr7, hr8, hr9, hr10]) rfl ⟨_, rfl, ⟨_, _, _, _, _, _, _, _, _, _, _, ys, z, rfl, by rw [HYN.out]; omega, by rw [HZN.out]; omega, HQz.out, HOz.out, HAP.out⟩, HDz.out.2.2.1, HDz.out.2.1⟩
  · -- 3
    have hG : World.grownBy w1 (w1.setCell ⟨N, 4, none⟩ (.int .i64 65536)) (some N) := gset (grown_refl _ _) _ _
    have HP2 : Hid (HoldV (w1.setCell ⟨N, 4, none⟩ (.int .i64 65536)) N #[.int .i64 x0, .int .i64 x1, .bool x2, .bool x3, .int .i64 65536, .int .i64 x5, .int .i64 x6, .int .i64 x7, .int .i64 x8, .slice qa yn qc, .slice ua zn uc] pkT) := hide (HP1.out.putc 4 _)
    have HD2 := hide (HD1.out.put HA.out HS.out hG (by omega))
    have HX2 := hide (HX1.out.gr hG (by omega))
    have HQ2 := hide (HQ1.out.gr2 hG (fun k hk => by have := hq0 k hk; omega))
    have HO2 := hide (HO1.out.gr2 hG (fun k hk => by have := hO0 k hk; omega))
    have cc := HP1.out.cell 4 _ rfl; have cf := HP1.out.frozen 4
    clear hG
    have hx0 := HP2.out.cell 0 _ rfl; have hx1 := HP2.out.cell 1 _ rfl; have hx2 := HP2.out.cell 2 _ rfl; have hx3 := HP2.out.cell 3 _ rfl; have hx4 := HP2.out.cell 4 _ rfl; have hx5 := HP2.out.cell 5 _ rfl; have hx6 := HP2.out.cell 6 _ rfl; have hx7 := HP2.out.cell 7 _ rfl; have hx8 := HP2.out.cell 8 _ rfl; have hx9 := HP2.out.cell 9 _ rfl; have hx10 := HP2.out.cell 10 _ rfl
    have hr0 := HX2.out.cell 0 _ rfl; have hr1 := HX2.out.cell 1 _ rfl; have hr2 := HX2.out.cell 2 _ rfl; have hr3 := HX2.out.cell 3 _ rfl; have hr4 := HX2.out.cell 4 _ rfl; have hr5 := HX2.out.cell 5 _ rfl; have hr6 := HX2.out.cell 6 _ rfl; have hr7 := HX2.out.cell 7 _ rfl; have hr8 := HX2.out.cell 8 _ rfl; have hr9 := HX2.out.cell 9 _ rfl; have hr10 := HX2.out.cell 10 _ rfl; have hrf := HX2.out.frozen
    have hGN : World.grownBy (w1.setCell ⟨N, 4, none⟩ (.int .i64 65536)) ((((((((((((w1.setCell ⟨N, 4, none⟩ (.int .i64 65536)).setCell ⟨N + 1, 0, none⟩ (.int .i64 x0)).setCell ⟨N + 1, 1, none⟩ (.int .i64 x1)).setCell ⟨N + 1, 2, none⟩ (.bool x2)).setCell ⟨N + 1, 3, none⟩ (.bool x3)).setCell ⟨N + 1, 4, none⟩ (.int .i64 65536)).setCell ⟨N + 1, 5, none⟩ (.int .i64 x5)).setCell ⟨N + 1, 6, none⟩ (.int .i64 x6)).setCell ⟨N + 1, 7, none⟩ (.int .i64 x7)).setCell ⟨N + 1, 8, none⟩ (.int .i64 x8)).setCell ⟨N + 1, 9, none⟩ (.slice qa yn qc)).setCell ⟨N + 1, 10, none⟩ (.slice ua zn uc)) (some (N + 1)) := set11 _ (N + 1) _ _ _ _ _ _ _ _ _ _ _
    have HOz := hide (HO2.out.gr2 hGN (fun k hk => by have := hO0 k hk; omega))
    have HQz := hide (HQ2.out.gr2 hGN (fun k hk => by have := hq0 k hk; omega))
    have HDz := hide (HD2.out.put HA.out HS.out hGN (by omega))
    clear hGN
    go_wp2_with fail
    subst hN
    exact bodyPost_ret (v := .agg #[.int .i64 x0, .int .i64 x1, .bool x2, .bool x3, .int .i64 65536, .int .i64 x5, .int .i64 x6, .int .i64 x7, .int .i64 x8, .slice qa yn qc, .slice ua zn uc]) (by simp [results, Tryz.results56, go_sem, hr0, hr1, hr2, hr3, hr4, hr5, hr6, hr7, hr8, hr9, hr10]) rfl ⟨_, rfl, ⟨_, _, _, _, _, _, _, _, _, _, _, ys, z, rfl, by rw [HYN.out]; omega, by rw [HZN.out]; omega, HQz.out, HOz.out, HAP.out⟩, HDz.out.2.2.1, HDz.out.2.1⟩
  · -- 4
    have hal : Below w1.heap.size w1 (w1.alloc (.cells #[.int .u8 1, .int .u8 2, .int .u8 3] 5)) := (Below.refl _ _).alloc (Nat.le_refl _) _
    have hw1 : N + 1 < w1.heap.size := HX1.out.lt
    have hBw1 : B ≤ w1.heap.size := by omega
    have HN2 : Hid (OwnB (w1.alloc (.cells #[.int .u8 1, .int .u8 2, .int .u8 3] 5)) B (.slice (some ⟨w1.heap.size, 0, none⟩) 3 3) [1, 2, 3]) := hide ((lit_own w1 [1, 2, 3] (by simp) (by simp)).low hBw1)
    have HD2 := hide (HD1.out.next hal); have HP2 := hide (HP1.out.next hal); have HX2 := hide (HX1.out.next hal); have HO2 := hide (HO1.out.nx hal)
    have hap2 : ∀ b, (Value.slice (some ⟨w1.heap.size, 0, none⟩) 3 3).ownBlock = some b → (Value.slice ua zn uc).ownBlock ≠ some b := by intro b hb h2; have h3 := hO0 b h2; have h4 : w1.heap.size = b := (by simpa [Value.ownBlock] using hb); omega
    have hnq : ∀ b, (Value.slice (some ⟨w1.heap.size, 0, none⟩) 3 3).ownBlock = some b → b = w1.heap.size := by intro b hb; simpa [Value.ownBlock] using hb.symm
    generalize hw2 : w1.alloc (.cells #[.int .u8 1, .int .u8 2, .int .u8 3] 5) = w2 at *
    have hG : w2.grownBy (w2.setCell ⟨N, 9, none⟩ (.slice (some ⟨w1.heap.size, 0, none⟩) 3 3)) (some N) := gset (grown_refl _ _) _ _
    have HP3 : Hid (HoldV (w2.setCell ⟨N, 9, none⟩ (.slice (some ⟨w1.heap.size, 0, none⟩) 3 3)) N #[.int .i64 x0, .int .i64 x1, .bool x2, .bool x3, .int .i64 x4, .int .i64 x5, .int .i64 x6, .int .i64 x7, .int .i64 x8, .slice (some ⟨w1.heap.size, 0, none⟩) 3 3, .slice ua zn uc] pkT) := hide (HP2.out.putc 9 _)
    have HD3 := hide (HD2.out.put HA.out HS.out hG (by omega))
    have HX3 := hide (HX2.out.gr hG (by omega))
    have HO3 := hide (HO2.out.gr2 hG (fun k hk => by have := hO0 k hk; omega))
    have HN3 := hide (HN2.out.gr2 hG (fun k hk => by have := hnq k hk; omega))
    have cc := HP2.out.cell 9 _ rfl; have cf := HP2.out.frozen 9
    clear hG hal
    generalize hM : w1.heap.size = M at *
    have hx0 := HP3.out.cell 0 _ rfl; have hx1 := HP3.out.cell 1 _ rfl; have hx2 := HP3.out.cell 2 _ rfl; have hx3 := HP3.out.cell 3 _ rfl; have hx4 := HP3.out.cell 4 _ rfl; have hx5 := HP3.out.cell 5 _ rfl; have hx6 := HP3.out.cell 6 _ rfl; have hx7 := HP3.out.cell 7 _ rfl; have hx8 := HP3.out.cell 8 _ rfl; have hx9 := HP3.out.cell 9 _ rfl; have hx10 := HP3.out.cell 10 _ rfl
    have hr0 := HX3.out.cell 0 _ rfl; have hr1 := HX3.out.cell 1 _ rfl; have hr2 := HX3.out.cell 2 _ rfl; have hr3 := HX3.out.cell 3 _ rfl; have hr4 := HX3.out.cell 4 _ rfl; have hr5 := HX3.out.cell 5 _ rfl; have hr6 := HX3.out.cell 6 _ rfl; have hr7 := HX3.out.cell 7 _ rfl; have hr8 := HX3.out.cell 8 _ rfl; have hr9 := HX3.out.cell 9 _ rfl; have hr10 := HX3.out.cell 10 _ rfl; have hrf := HX3.out.frozen
    have hGN : World.grownBy (w2.setCell ⟨N, 9, none⟩ (.slice (some ⟨M, 0, none⟩) 3 3)) ((((((((((((w2.setCell ⟨N, 9, none⟩ (.slice (some ⟨M, 0, none⟩) 3 3)).setCell ⟨N + 1, 0, none⟩ (.int .i64 x0)).setCell ⟨N + 1, 1, none⟩ (.int .i64 x1)).setCell ⟨N + 1, 2, none⟩ (.bool x2)).setCell ⟨N + 1, 3, none⟩ (.bool x3)).setCell ⟨N + 1, 4, none⟩ (.int .i64 x4)).setCell ⟨N + 1, 5, none⟩ (.int .i64 x5)).setCell ⟨N + 1, 6, none⟩ (.int .i64 x6)).setCell ⟨N + 1, 7, none⟩ (.int .i64 x7)).setCell ⟨N + 1, 8, none⟩ (.int .i64 x8)).setCell ⟨N + 1, 9, none⟩ (.slice (some ⟨M, 0, none⟩) 3 3)).setCell ⟨N + 1, 10, none⟩ (.slice ua zn uc)) (some (N + 1)) := set11 _ (N + 1) _ _ _ _ _ _ _ _ _ _ _
    have HOz := hide (HO3.out.gr2 hGN (fun k hk => by have := hO0 k hk; omega))
    have HQz := hide (HN3.out.gr2 hGN (fun k hk => by have := hnq k hk; omega))
    have HDz := hide (HD3.out.put HA.out HS.out hGN (by omega))
    clear hGN
    go_wp2_with fail
    subst hN
    exact bodyPost_ret (v := .agg #[.int .i64 x0, .int .i64 x1, .bool x2, .bool x3, .int .i64 x4, .int .i64 x5, .int .i64 x6, .int .i64 x7, .int .i64 x8, .slice (some ⟨M, 0, none⟩) 3 3, .slice ua zn uc]) (by simp [results, Tryz.results56, go_sem, hr0, hr1, hr2, hr3, hr4, hr5, hr6, hr7, hr8, hr9, hr10]) rfl ⟨_, rfl, ⟨_, _, _, _, _, _, _, _, _, _, _, [1, 2, 3], z, rfl, by simp, by rw [HZN.out]; omega, HQz.out, HOz.out, hap2⟩, HDz.out.2.2.1, HDz.out.2.1⟩
  · -- 5
    have hG : World.grownBy w1 (w1.setCell ⟨N, 7, none⟩ (.int .i64 4294967296)) (some N) := gset (grown_refl _ _) _ _
    have HP2 : Hid (HoldV (w1.setCell ⟨N, 7, none⟩ (.int .i64 4294967296)) N #[.int .i64 x0, .int .i64 x1, .bool x2, .bool x3, .int .i64 x4, .int .i64 x5, .int .i64 x6, .int .i64 4294967296, .int .i64 x8, .slice qa yn qc, .slice ua zn uc] pkT) := hide (HP1.out.putc 7 _)
    have HD2 := hide (HD1.out.put HA.out HS.out hG (by omega))
    have HX2 := hide (HX1.out.gr hG (by omega))
    have HQ2 := hide (HQ1.out.gr2 hG (fun k hk => by have := hq0 k hk; omega))
    have HO2 := hide (HO1.out.gr2 hG (fun k hk => by have := hO0 k hk; omega))
    have cc := HP1.out.cell 7 _ rfl; have cf := HP1.out.frozen 7
    clear hG
    have hx0 := HP2.out.cell 0 _ rfl; have hx1 := HP2.out.cell 1 _ rfl; have hx2 := HP2.out.cell 2 _ rfl; have hx3 := HP2.out.cell 3 _ rfl; have hx4 := HP2.out.cell 4 _ rfl; have hx5 := HP2.out.cell 5 _ rfl; have hx6 := HP2.out.cell 6 _ rfl; have hx7 := HP2.out.cell 7 _ rfl; have hx8 := HP2.out.cell 8 _ rfl; have hx9 := HP2.out.cell 9 _ rfl; have hx10 := HP2.out.cell 10 _ rfl
    have hr0 := HX2.out.cell 0 _ rfl; have hr1 := HX2.out.cell 1 _ rfl; have hr2 := HX2.out.cell 2 _ rfl; have hr3 := HX2.out.cell 3 _ rfl; have hr4 := HX2.out.cell 4 _ rfl; have hr5 := HX2.out.cell 5 _ rfl; have hr6 := HX2.out.cell 6 _ rfl; have hr7 := HX2.out.cell 7 _ rfl; have hr8 := HX2.out.cell 8 _ rfl; have hr9 := HX2.out.cell 9 _ rfl; have hr10 := HX2.out.cell 10 _ rfl; have hrf := HX2.out.frozen
    have hGN : World.grownBy (w1.setCell ⟨N, 7, none⟩ (.int .i64 4294967296)) ((((((((((((w1.setCell ⟨N, 7, none⟩ (.int .i64 4294967296)).setCell ⟨N + 1, 0, none⟩ (.int .i64 x0)).setCell ⟨N + 1, 1, none⟩ (.int .i64 x1)).setCell ⟨N + 1, 2, none⟩ (.bool x2)).setCell ⟨N + 1, 3, none⟩ (.bool x3)).setCell ⟨N + 1, 4, none⟩ (.int .i64 x4)).setCell ⟨N + 1, 5, none⟩ (.int .i64 x5)).setCell ⟨N + 1, 6, none⟩ (.int .i64 x6)).setCell ⟨N + 1, 7, none⟩ (.int .i64 4294967296)).setCell ⟨N + 1, 8, none⟩ (.int .i64 x8)).setCell ⟨N + 1, 9, none⟩ (.slice qa yn qc)).setCell ⟨N + 1, 10, none⟩ (.slice ua zn uc)) (some (N + 1)) := set11 _ (N + 1) _ _ _ _ _ _ _ _ _ _ _
    have HOz := hide (HO2.out.gr2 hGN (fun k hk => by have := hO0 k hk; omega))
    have HQz := hide (HQ2.out.gr2 hGN (fun k hk => by have := hq0 k hk; omega))
    have HDz := hide (HD2.out.put HA.out HS.out hGN (by omega))
    clear hGN
    go_wp2_with fail
    subst hN
    exact bodyPost_ret (v := .agg #[.int .i64 x0, .int .i64 x1, .bool x2, .bool x3, .int .i64 x4, .int .i64 x5, .int .i64 x6, .int .i64 4294967296, .int .i64 x8, .slice qa yn qc, .slice ua zn uc]) (by simp [results, Tryz.results56, go_sem, hr0, hr1, hr2, hr3, hr4, hr5, hr6, hr7, hr8, hr9, hr10]) rfl ⟨_, rfl, ⟨_, _, _, _, _, _, _, _, _, _, _, ys, z, rfl, by rw [HYN.out]; omega, by rw [HZN.out]; omega, HQz.out, HOz.out, HAP.out⟩, HDz.out.2.2.1, HDz.out.2.1⟩
  · -- 6
    have hG : World.grownBy w1 (w1.setCell ⟨N, 5, none⟩ (.int .i64 256)) (some N) := gset (grown_refl _ _) _ _
    have HP2 : Hid (HoldV (w1.setCell ⟨N, 5, none⟩ (.int .i64 256)) N #[.int .i64 x0, .int .i64 x1, .bool x2, .bool x3, .int .i64 x4, .int .i64 256, .int .i64 x6, .int .i64 x7, .int .i64 x8, .slice qa yn qc, .slice ua zn uc] pkT) := hide (HP1.out.putc 5 _)
    have HD2 := hide (HD1.out.put HA.out HS.out hG (by omega))
    have HX2 := hide (HX1.out.gr hG (by omega))
    have HQ2 := hide (HQ1.out.gr2 hG (fun k hk => by have := hq0 k hk; omega))
    have HO2 := hide (HO1.out.gr2 hG (fun k hk => by have := hO0 k hk; omega))
    have cc := HP1.out.cell 5 _ rfl; have cf := HP1.out.frozen 5
    clear hG
    have hx0 := HP2.out.cell 0 _ rfl; have hx1 := HP2.out.cell 1 _ rfl; have hx2 := HP2.out.cell 2 _ rfl; have hx3 := HP2.out.cell 3 _ rfl; have hx4 := HP2.out.cell 4 _ rfl; have hx5 := HP2.out.cell 5 _ rfl; have hx6 := HP2.out.cell 6 _ rfl; have hx7 := HP2.out.cell 7 _ rfl; have hx8 := HP2.out.cell 8 _ rfl; have hx9 := HP2.out.cell 9 _ rfl; have hx10 := HP2.out.cell 10 _ rfl
    have hr0 := HX2.out.cell 0 _ rfl; have hr1 := HX2.out.cell 1 _ rfl; have hr2 := HX2.out.cell 2 _ rfl; have hr3 := HX2.out.cell 3 _ rfl; have hr4 := HX2.out.cell 4 _ rfl; have hr5 := HX2.out.cell 5 _ rfl; have hr6 := HX2.out.cell 6 _ rfl; have hr7 := HX2.out.cell 7 _ rfl; have hr8 := HX2.out.cell 8 _ rfl; have hr9 := HX2.out.cell 9 _ rfl; have hr10 := HX2.out.cell 10 _ rfl; have hrf := HX2.out.frozen
    have hGN : World.grownBy (w1.setCell ⟨N, 5, none⟩ (.int .i64 256)) ((((((((((((w1.setCell ⟨N, 5, none⟩ (.int .i64 256)).setCell ⟨N + 1, 0, none⟩ (.int .i64 x0)).setCell ⟨N + 1, 1, none⟩ (.int .i64 x1)).setCell ⟨N + 1, 2, none⟩ (.bool x2)).setCell ⟨N + 1, 3, none⟩ (.bool x3)).setCell ⟨N + 1, 4, none⟩ (.int .i64 x4)).setCell ⟨N + 1, 5, none⟩ (.int .i64 256)).setCell ⟨N + 1, 6, none⟩ (.int .i64 x6)).setCell ⟨N + 1, 7, none⟩ (.int .i64 x7)).setCell ⟨N + 1, 8, none⟩ (.int .i64 x8)).setCell ⟨N + 1, 9, none⟩ (.slice qa yn qc)).setCell ⟨N + 1, 10, none⟩ (.slice ua zn uc)) (some (N + 1)) := set11 _ (N + 1) _ _ _ _ _ _ _ _ _ _ _
    have HOz := hide (HO2.out.gr2 hGN (fun k hk => by have := hO0 k hk; omega))
    have HQz := hide (HQ2.out.gr2 hGN (fun k hk => by have := hq0 k hk; omega))
    have HDz := hide (HD2.out.put HA.out HS.out hGN (by omega))
    clear hGN
    go_wp2_with fail
    subst hN
    exact bodyPost_ret (v := .agg #[.int .i64 x0, .int .i64 x1, .bool x2, .bool x3, .int .i64 x4, .int .i64 256, .int .i64 x6, .int .i64 x7, .int .i64 x8, .slice qa yn qc, .slice ua zn uc]) (by simp [results, Tryz.results56, go_sem, hr0, hr1, hr2, hr3, hr4, hr5, hr6, hr7, hr8, hr9, hr10]) rfl ⟨_, rfl, ⟨_, _, _, _, _, _, _, _, _, _, _, ys, z, rfl, by rw [HYN.out]; omega, by rw [HZN.out]; omega, HQz.out, HOz.out, HAP.out⟩, HDz.out.2.2.1, HDz.out.2.1⟩
  · -- 7
    go_upto_region 17 with fail
    refine wp_region_last2 (fun W W2 => W.grownBy W2 (some g)) (fun W => DSr w W g a cap zs ∧ HoldV W N #[.int .i64 x0, .int .i64 x1, .bool x2, .bool x3, .int .i64 x4, .int .i64 x5, .int .i64 x6, .int .i64 x7, .int .i64 x8, .slice qa yn qc, .slice ua zn uc] pkT ∧ HoldV W (N + 1) #[.int .i64 0, .int .i64 0, .bool false, .bool false, .int .i64 0, .int .i64 0, .int .i64 0, .int .i64 0, .int .i64 0, .slice none 0 0, .slice none 0 0] pkT ∧ OwnB W B (.slice qa yn qc) ys) (A17 g N yn B qa qc) _ rfl (by kernel_rfl) (by kernel_rfl) (by kernel_rfl) (by kernel_rfl) (A17_kept hgB) ⟨HD1.out.next ((Below.refl _ _).drew), HP1.out.next ((Below.refl _ _).drew), HX1.out.next ((Below.refl _ _).drew), HQ1.out.nx ((Below.refl _ _).drew)⟩ ?_ ?_
    clear HD1 HP1 HX1 HQ1 HO1
    refine EachBut.one _ _ _ ?_ ?_
    · intro v W hB hp KK hKK
      rw [if_pos (by rfl)]
      have hp1 : AllOf (A17 g N yn B qa qc) v W [] := hp
      clear hp
      simp only [putAll, Act.put, List.setIfInBounds_toArray, List.set_cons_zero, List.set_cons_succ, Nat.reduceAdd] at hKK ⊢
      go_simp
      refine hKK _ _ (grown_refl _ _) hB ?_
      rfl
    refine EachBut.one _ _ _ ?_ ?_
    · intro v W hB hp KK hKK
      rw [if_pos (by rfl)]
      have hp1 : AllOf (A17 g N yn B qa qc) v W [0] := hp
      clear hp
      simp only [putAll, Act.put, List.setIfInBounds_toArray, List.set_cons_zero, List.set_cons_succ, Nat.reduceAdd] at hKK ⊢
      have c9 := hB.2.1.cell 9 _ rfl
      have e0 : v 0 = .pointer (some ⟨N, 9, none⟩) := hp1.1
      simp only [e0] at hKK ⊢
      clear e0 hp1
      have HB := hide hB
      clear hB
      go_simp
      refine hKK _ _ (grown_refl _ _) HB.out ?_
      rfl
    refine EachBut.one _ _ _ ?_ ?_
    · intro v W hB hp KK hKK
      rw [if_pos (by rfl)]
      have hp1 : AllOf (A17 g N yn B qa qc) v W [1] := hp
      clear hp
      simp only [putAll, Act.put, List.setIfInBounds_toArray, List.set_cons_zero, List.set_cons_succ, Nat.reduceAdd] at hKK ⊢
      have e1 : v 1 = .slice qa yn qc := hp1.1
      simp only [e1] at hKK ⊢
      clear e1 hp1
      go_simp
      refine hKK _ _ (grown_refl _ _) hB ?_
      rfl
    refine EachBut.one _ _ _ ?_ ?_
    · intro v W hB hp KK hKK
      rw [if_pos (by rfl)]
      have hp1 : AllOf (A17 g N yn B qa qc) v W [2] := hp
      clear hp
      simp only [putAll, Act.put, List.setIfInBounds_toArray, List.set_cons_zero, List.set_cons_succ, Nat.reduceAdd] at hKK ⊢
      have e2 : v 2 = .int .i64 (yn : Int) := hp1.1
      simp only [e2] at hKK ⊢
      clear e2 hp1
      have hw : IntKind.i64.wrap (65515 - (yn : Int)) = 65515 - (yn : Int) := by rw [IntKind.wrap_i64]; omega
      go_simp
      refine hKK _ _ (grown_refl _ _) hB ?_
      rfl
    refine EachBut.one _ _ _ ?_ ?_
    · intro v W hB hp KK hKK
      rw [if_pos (by rfl)]
      have hp1 : AllOf (A17 g N yn B qa qc) v W [] := hp
      clear hp
      simp only [putAll, Act.put, List.setIfInBounds_toArray, List.set_cons_zero, List.set_cons_succ, Nat.reduceAdd] at hKK ⊢
      go_simp
      refine hKK _ _ (grown_refl _ _) hB ?_
      rfl
    refine EachBut.one _ _ _ ?_ ?_
    · intro v W hB hp KK hKK
      rw [if_pos (by rfl)]
      have hp1 : AllOf (A17 g N yn B qa qc) v W [4] := hp
      clear hp
      simp only [putAll, Act.put, List.setIfInBounds_toArray, List.set_cons_zero, List.set_cons_succ, Nat.reduceAdd] at hKK ⊢
      have e4 : v 4 = .pointer (some ⟨g, 0, none⟩) := hp1.1
      simp only [e4] at hKK ⊢
      clear e4 hp1
      have HB := hide hB
      clear hB
      go_simp
      refine (l01Next_walk g 2 zs _ a cap HB.out.1.1 HB.out.1.2.1 (by omega) (by omega) hl).mono ?_
      rintro e w3 ⟨s, rfl, s0, s1, hg1, hs1⟩
      go_simp
      refine hKK _ _ hg1 ⟨HB.out.1.step hg1 hs1, HB.out.2.1.gr hg1 (by omega), HB.out.2.2.1.gr hg1 (by omega), HB.out.2.2.2.gr hg1 hgB⟩ ?_
      exact ⟨s, rfl, s0, s1⟩
    refine EachBut.one _ _ _ ?_ ?_
    · intro v W hB hp KK hKK
      rw [if_pos (by rfl)]
      have hp1 : AllOf (A17 g N yn B qa qc) v W [3, 5] := hp
      clear hp
      simp only [putAll, Act.put, List.setIfInBounds_toArray, List.set_cons_zero, List.set_cons_succ, Nat.reduceAdd] at hKK ⊢
      obtain ⟨p3, p5, _⟩ := hp1
      have e3 : v 3 = .int .i64 (65515 - (yn : Int)) := p3
      obtain ⟨s, e5, s0, s1⟩ := p5
      simp only [e3, e5] at hKK ⊢
      clear e3 e5 p3
      obtain ⟨m, hm⟩ := Int.eq_ofNat_of_zero_le (show 0 ≤ 65515 - (yn : Int) + s by omega)
      have hw : IntKind.i64.wrap (65515 - (yn : Int) + s) = (m : Int) := by rw [hm, IntKind.wrap_i64]; omega
      have hm2 : m ≤ 65516 := by omega
      clear hm s0 s1
      go_simp
      refine hKK _ _ (grown_refl _ _) hB ?_
      exact ⟨m, rfl, hm2⟩
    refine EachBut.one _ _ _ ?_ ?_
    · intro v W hB hp KK hKK
      rw [if_pos (by rfl)]
      have hp1 : AllOf (A17 g N yn B qa qc) v W [6, 6] := hp
      clear hp
      simp only [putAll, Act.put, List.setIfInBounds_toArray, List.set_cons_zero, List.set_cons_succ, Nat.reduceAdd] at hKK ⊢
      obtain ⟨⟨m, e6, hm⟩, _⟩ := hp1
      simp only [e6] at hKK ⊢
      clear e6
      have rm := run_bytes m W (by omega)
      have hlt := hB.2.2.1.lt
      have HB := hide hB
      clear hB
      go_simp
      refine hKK _ _ (World.grownBy_alloc W _ _) ⟨HB.out.1.alloc _, HB.out.2.1.next ((Below.refl _ _).alloc (Nat.le_refl _) _), HB.out.2.2.1.next ((Below.refl _ _).alloc (Nat.le_refl _) _), HB.out.2.2.2.nx ((Below.refl _ _).alloc (Nat.le_refl _) _)⟩ ?_
      exact ⟨m, W.heap.size, rfl, zeros_own W m B (by omega) (by omega), hm, hlt⟩
    refine EachBut.one _ _ _ ?_ ?_
    · intro v W hB hp KK hKK
      rw [if_pos (by rfl)]
      have hp1 : AllOf (A17 g N yn B qa qc) v W [0, 1, 2, 3, 4, 5, 6, 7] := hp
      clear hp
      simp only [putAll, Act.put, List.setIfInBounds_toArray, List.set_cons_zero, List.set_cons_succ, Nat.reduceAdd] at hKK ⊢
      clear hp1
      go_simp
      refine hKK _ _ (grown_refl _ _) hB ?_
      rfl
    · exact trivial
    intro v W hB hA KK hKK
    rw [if_pos (by rfl)]
    simp only [putAll, Act.put, List.setIfInBounds_toArray, List.set_cons_zero, List.set_cons_succ, Nat.reduceAdd]
    have p7 : A17 g N yn B qa qc 7 (v 7) W := hA 7 (by decide)
    have p8 : A17 g N yn B qa qc 8 (v 8) W := hA 8 (by decide)
    clear hA
    obtain ⟨m, M, e7, hO7, hm, hNM⟩ := p7
    have e8 : v 8 = .pointer (some ⟨N, 10, none⟩) := p8
    simp only [e7, e8]
    rw [e7] at hO7
    clear e7 e8 p8
    generalize v 0 = y0; generalize v 1 = y1; generalize v 2 = y2; generalize v 3 = y3; generalize v 4 = y4; generalize v 5 = y5; generalize v 6 = y6
    have HN2 := hide hO7; have HDb := hide hB.1; have HPb := hide hB.2.1; have HXb := hide hB.2.2.1; have HQb := hide hB.2.2.2
    clear hO7 hB
    have hap2 : ∀ b, (Value.slice qa yn qc).ownBlock = some b → (Value.slice (some ⟨M, 0, none⟩) m m).ownBlock ≠ some b := by intro b h2 hb; have h3 := hq0 b h2; have h4 : M = b := (by simpa [Value.ownBlock] using hb); omega
    have hnq : ∀ b, (Value.slice (some ⟨M, 0, none⟩) m m).ownBlock = some b → b = M := by intro b hb; simpa [Value.ownBlock] using hb.symm
    have hG : W.grownBy (W.setCell ⟨N, 10, none⟩ (.slice (some ⟨M, 0, none⟩) m m)) (some N) := gset (grown_refl _ _) _ _
    have HPc : Hid (HoldV (W.setCell ⟨N, 10, none⟩ (.slice (some ⟨M, 0, none⟩) m m)) N #[.int .i64 x0, .int .i64 x1, .bool x2, .bool x3, .int .i64 x4, .int .i64 x5, .int .i64 x6, .int .i64 x7, .int .i64 x8, .slice qa yn qc, .slice (some ⟨M, 0, none⟩) m m] pkT) := hide (HPb.out.putc 10 _)
    have HDc := hide (HDb.out.put HA.out HS.out hG (by omega))
    have HXc := hide (HXb.out.gr hG (by omega))
    have HQc := hide (HQb.out.gr2 hG (fun k hk => by have := hq0 k hk; omega))
    have HNc := hide (HN2.out.gr2 hG (fun k hk => by have := hnq k hk; omega))
    have cc := HPb.out.cell 10 _ rfl; have cf := HPb.out.frozen 10
    clear hG
    go_simp
    refine hKK _ _ ?_
    clear hKK
    have hx0 := HPc.out.cell 0 _ rfl; have hx1 := HPc.out.cell 1 _ rfl; have hx2 := HPc.out.cell 2 _ rfl; have hx3 := HPc.out.cell 3 _ rfl; have hx4 := HPc.out.cell 4 _ rfl; have hx5 := HPc.out.cell 5 _ rfl; have hx6 := HPc.out.cell 6 _ rfl; have hx7 := HPc.out.cell 7 _ rfl; have hx8 := HPc.out.cell 8 _ rfl; have hx9 := HPc.out.cell 9 _ rfl; have hx10 := HPc.out.cell 10 _ rfl
    have hr0 := HXc.out.cell 0 _ rfl; have hr1 := HXc.out.cell 1 _ rfl; have hr2 := HXc.out.cell 2 _ rfl; have hr3 := HXc.out.cell 3 _ rfl; have hr4 := HXc.out.cell 4 _ rfl; have hr5 := HXc.out.cell 5 _ rfl; have hr6 := HXc.out.cell 6 _ rfl; have hr7 := HXc.out.cell 7 _ rfl; have hr8 := HXc.out.cell 8 _ rfl; have hr9 := HXc.out.cell 9 _ rfl; have hr10 := HXc.out.cell 10 _ rfl; have hrf := HXc.out.frozen
    have hGN : World.grownBy (W.setCell ⟨N, 10, none⟩ (.slice (some ⟨M, 0, none⟩) m m)) ((((((((((((W.setCell ⟨N, 10, none⟩ (.slice (some ⟨M, 0, none⟩) m m)).setCell ⟨N + 1, 0, none⟩ (.int .i64 x0)).setCell ⟨N + 1, 1, none⟩ (.int .i64 x1)).setCell ⟨N + 1, 2, none⟩ (.bool x2)).setCell ⟨N + 1, 3, none⟩ (.bool x3)).setCell ⟨N + 1, 4, none⟩ (.int .i64 x4)).setCell ⟨N + 1, 5, none⟩ (.int .i64 x5)).setCell ⟨N + 1, 6, none⟩ (.int .i64 x6)).setCell ⟨N + 1, 7, none⟩ (.int .i64 x7)).setCell ⟨N + 1, 8, none⟩ (.int .i64 x8)).setCell ⟨N + 1, 9, none⟩ (.slice qa yn qc)).setCell ⟨N + 1, 10, none⟩ (.slice (some ⟨M, 0, none⟩) m m)) (some (N + 1)) := set11 _ (N + 1) _ _ _ _ _ _ _ _ _ _ _
    have HOz := hide (HNc.out.gr2 hGN (fun k hk => by have := hnq k hk; omega))
    have HQz := hide (HQc.out.gr2 hGN (fun k hk => by have := hq0 k hk; omega))
    have HDz := hide (HDc.out.put HA.out HS.out hGN (by omega))
    clear hGN
    go_wp2_with fail
    subst hN
    exact bodyPost_ret (v := .agg #[.int .i64 x0, .int .i64 x1, .bool x2, .bool x3, .int .i64 x4, .int .i64 x5, .int .i64 x6, .int .i64 x7, .int .i64 x8, .slice qa yn qc, .slice (some ⟨M, 0, none⟩) m m]) (by simp [results, Tryz.results56, go_sem, hr0, hr1, hr2, hr3, hr4, hr5, hr6, hr7, hr8, hr9, hr10]) rfl ⟨_, rfl, ⟨_, _, _, _, _, _, _, _, _, _, _, ys, (List.replicate m 0), rfl, by rw [HYN.out]; omega, by rw [List.length_replicate]; omega, HQz.out, HOz.out, hap2⟩, HDz.out.2.2.1, HDz.out.2.1⟩
  · -- 8
    have hG : World.grownBy w1 (w1.setCell ⟨N, 4, none⟩ (.int .i64 65528)) (some N) := gset (grown_refl _ _) _ _
    have HP2 : Hid (HoldV (w1.setCell ⟨N, 4, none⟩ (.int .i64 65528)) N #[.int .i64 x0, .int .i64 x1, .bool x2, .bool x3, .int .i64 65528, .int .i64 x5, .int .i64 x6, .int .i64 x7, .int .i64 x8, .slice qa yn qc, .slice ua zn uc] pkT) := hide (HP1.out.putc 4 _)
    have HD2 := hide (HD1.out.put HA.out HS.out hG (by omega))
    have HX2 := hide (HX1.out.gr hG (by omega))
    have HQ2 := hide (HQ1.out.gr2 hG (fun k hk => by have := hq0 k hk; omega))
    have HO2 := hide (HO1.out.gr2 hG (fun k hk => by have := hO0 k hk; omega))
    have cc := HP1.out.cell 4 _ rfl; have cf := HP1.out.frozen 4
    clear hG
    go_wp2_with fail
    generalize w1.setCell ⟨N, 4, none⟩ (.int .i64 65528) = w2 at *
    clear cc cf HP1 HD1 HX1 HQ1 HO1
    refine (l01Next_walk g 2 zs _ a cap HD2.out.1 HD2.out.2.1 (by omega) (by omega) hl).mono ?_
    rintro e w3 ⟨s, rfl, s0, s1, hg1, hs1⟩
    have HD3 := hide (HD2.out.step hg1 hs1); have HP3 := hide (HP2.out.gr hg1 (show N ≠ g by omega)); have HX3 := hide (HX2.out.gr hg1 (show N + 1 ≠ g by omega)); have HQ3 := hide (HQ2.out.gr hg1 hgB)
    clear hg1 hs1 HD2 HP2 HX2 HQ2 HO2
    have hw1 : N + 1 < w3.heap.size := HX3.out.lt
    rcases (show s = 0 ∨ s = 1 by omega) with rfl | rfl
    · have rm : (Instr.makeSlice 22 (.int .i64 7) (.int .i64 7)).run Tryz.prog w3 = _ := run_bytes 7 w3 (by omega)
      have hal : Below w3.heap.size w3 (w3.alloc (.cells (bval (List.replicate 7 0)).toArray 5)) := (Below.refl _ _).alloc (Nat.le_refl _) _
      have HN2 : Hid (OwnB (w3.alloc (.cells (bval (List.replicate 7 0)).toArray 5)) B (.slice (some ⟨w3.heap.size, 0, none⟩) 7 7) (List.replicate 7 0)) := hide (zeros_own w3 7 B (by omega) (by omega))
      have HDb := hide (HD3.out.next hal); have HPb := hide (HP3.out.next hal); have HXb := hide (HX3.out.next hal); have HQb := hide (HQ3.out.nx hal)
      have hap2 : ∀ b, (Value.slice qa yn qc).ownBlock = some b → (Value.slice (some ⟨w3.heap.size, 0, none⟩) 7 7).ownBlock ≠ some b := by intro b h2 hb; have h3 := hq0 b h2; have h4 : w3.heap.size = b := (by simpa [Value.ownBlock] using hb); omega
      have hnq : ∀ b, (Value.slice (some ⟨w3.heap.size, 0, none⟩) 7 7).ownBlock = some b → b = w3.heap.size := by intro b hb; simpa [Value.ownBlock] using hb.symm
      generalize hwm : w3.alloc (.cells (bval (List.replicate 7 0)).toArray 5) = wm at *
      have hG : wm.grownBy (wm.setCell ⟨N, 10, none⟩ (.slice (some ⟨w3.heap.size, 0, none⟩) 7 7)) (some N) := gset (grown_refl _ _) _ _
      have HPc : Hid (HoldV (wm.setCell ⟨N, 10, none⟩ (.slice (some ⟨w3.heap.size, 0, none⟩) 7 7)) N #[.int .i64 x0, .int .i64 x1, .bool x2, .bool x3, .int .i64 65528, .int .i64 x5, .int .i64 x6, .int .i64 x7, .int .i64 x8, .slice qa yn qc, .slice (some ⟨w3.heap.size, 0, none⟩) 7 7] pkT) := hide (HPb.out.putc 10 _)
      have HDc := hide (HDb.out.put HA.out HS.out hG (by omega))
      have HXc := hide (HXb.out.gr hG (by omega))
      have HQc := hide (HQb.out.gr2 hG (fun k hk => by have := hq0 k hk; omega))
      have HNc := hide (HN2.out.gr2 hG (fun k hk => by have := hnq k hk; omega))
      have cc := HPb.out.cell 10 _ rfl; have cf := HPb.out.frozen 10
      clear hG hal
      generalize hM : w3.heap.size = M at *
      have hx0 := HPc.out.cell 0 _ rfl; have hx1 := HPc.out.cell 1 _ rfl; have hx2 := HPc.out.cell 2 _ rfl; have hx3 := HPc.out.cell 3 _ rfl; have hx4 := HPc.out.cell 4 _ rfl; have hx5 := HPc.out.cell 5 _ rfl; have hx6 := HPc.out.cell 6 _ rfl; have hx7 := HPc.out.cell 7 _ rfl; have hx8 := HPc.out.cell 8 _ rfl; have hx9 := HPc.out.cell 9 _ rfl; have hx10 := HPc.out.cell 10 _ rfl
      have hr0 := HXc.out.cell 0 _ rfl; have hr1 := HXc.out.cell 1 _ rfl; have hr2 := HXc.out.cell 2 _ rfl; have hr3 := HXc.out.cell 3 _ rfl; have hr4 := HXc.out.cell 4 _ rfl; have hr5 := HXc.out.cell 5 _ rfl; have hr6 := HXc.out.cell 6 _ rfl; have hr7 := HXc.out.cell 7 _ rfl; have hr8 := HXc.out.cell 8 _ rfl; have hr9 := HXc.out.cell 9 _ rfl; have hr10 := HXc.out.cell 10 _ rfl; have hrf := HXc.out.frozen
      have hGN : World.grownBy (wm.setCell ⟨N, 10, none⟩ (.slice (some ⟨M, 0, none⟩) 7 7)) ((((((((((((wm.setCell ⟨N, 10, none⟩ (.slice (some ⟨M, 0, none⟩) 7 7)).setCell ⟨N + 1, 0, none⟩ (.int .i64 x0)).setCell ⟨N + 1, 1, none⟩ (.int .i64 x1)).setCell ⟨N + 1, 2, none⟩ (.bool x2)).setCell ⟨N + 1, 3, none⟩ (.bool x3)).setCell ⟨N + 1, 4, none⟩ (.int .i64 65528)).setCell ⟨N + 1, 5, none⟩ (.int .i64 x5)).setCell ⟨N + 1, 6, none⟩ (.int .i64 x6)).setCell ⟨N + 1, 7, none⟩ (.int .i64 x7)).setCell ⟨N + 1, 8, none⟩ (.int .i64 x8)).setCell ⟨N + 1, 9, none⟩ (.slice qa yn qc)).setCell ⟨N + 1, 10, none⟩ (.slice (some ⟨M, 0, none⟩) 7 7)) (some (N + 1)) := set11 _ (N + 1) _ _ _ _ _ _ _ _ _ _ _
      have HOz := hide (HNc.out.gr2 hGN (fun k hk => by have := hnq k hk; omega))
      have HQz := hide (HQc.out.gr2 hGN (fun k hk => by have := hq0 k hk; omega))
      have HDz := hide (HDc.out.put HA.out HS.out hGN (by omega))
      clear hGN
      go_wp2_with fail
      subst hN
      exact bodyPost_ret (v := .agg #[.int .i64 x0, .int .i64 x1, .bool x2, .bool x3, .int .i64 65528, .int .i64 x5, .int .i64 x6, .int .i64 x7, .int .i64 x8, .slice qa yn qc, .slice (some ⟨M, 0, none⟩) 7 7]) (by simp [results, Tryz.results56, go_sem, hr0, hr1, hr2, hr3, hr4, hr5, hr6, hr7, hr8, hr9, hr10]) rfl ⟨_, rfl, ⟨_, _, _, _, _, _, _, _, _, _, _, ys, (List.replicate 7 0), rfl, by rw [HYN.out]; omega, by rw [List.length_replicate]; omega, HQz.out, HOz.out, hap2⟩, HDz.out.2.2.1, HDz.out.2.1⟩
    · have rm : (Instr.makeSlice 22 (.int .i64 8) (.int .i64 8)).run Tryz.prog w3 = _ := run_bytes 8 w3 (by omega)
      have hal : Below w3.heap.size w3 (w3.alloc (.cells (bval (List.replicate 8 0)).toArray 5)) := (Below.refl _ _).alloc (Nat.le_refl _) _
      have HN2 : Hid (OwnB (w3.alloc (.cells (bval (List.replicate 8 0)).toArray 5)) B (.slice (some ⟨w3.heap.size, 0, none⟩) 8 8) (List.replicate 8 0)) := hide (zeros_own w3 8 B (by omega) (by omega))
      have HDb := hide (HD3.out.next hal); have HPb := hide (HP3.out.next hal); have HXb := hide (HX3.out.next hal); have HQb := hide (HQ3.out.nx hal)
      have hap2 : ∀ b, (Value.slice qa yn qc).ownBlock = some b → (Value.slice (some ⟨w3.heap.size, 0, none⟩) 8 8).ownBlock ≠ some b := by intro b h2 hb; have h3 := hq0 b h2; have h4 : w3.heap.size = b := (by simpa [Value.ownBlock] using hb); omega
      have hnq : ∀ b, (Value.slice (some ⟨w3.heap.size, 0, none⟩) 8 8).ownBlock = some b → b = w3.heap.size := by intro b hb; simpa [Value.ownBlock] using hb.symm
      generalize hwm : w3.alloc (.cells (bval (List.replicate 8 0)).toArray 5) = wm at *
      have hG : wm.grownBy (wm.setCell ⟨N, 10, none⟩ (.slice (some ⟨w3.heap.size, 0, none⟩) 8 8)) (some N) := gset (grown_refl _ _) _ _
      have HPc : Hid (HoldV (wm.setCell ⟨N, 10, none⟩ (.slice (some ⟨w3.heap.size, 0, none⟩) 8 8)) N #[.int .i64 x0, .int .i64 x1, .bool x2, .bool x3, .int .i64 65528, .int .i64 x5, .int .i64 x6, .int .i64 x7, .int .i64 x8, .slice qa yn qc, .slice (some ⟨w3.heap.size, 0, none⟩) 8 8] pkT) := hide (HPb.out.putc 10 _)
      have HDc := hide (HDb.out.put HA.out HS.out hG (by omega))
      have HXc := hide (HXb.out.gr hG (by omega))
      have HQc := hide (HQb.out.gr2 hG (fun k hk => by have := hq0 k hk; omega))
      have HNc := hide (HN2.out.gr2 hG (fun k hk => by have := hnq k hk; omega))
      have cc := HPb.out.cell 10 _ rfl; have cf := HPb.out.frozen 10
      clear hG hal
      generalize hM : w3.heap.size = M at *
      have hx0 := HPc.out.cell 0 _ rfl; have hx1 := HPc.out.cell 1 _ rfl; have hx2 := HPc.out.cell 2 _ rfl; have hx3 := HPc.out.cell 3 _ rfl; have hx4 := HPc.out.cell 4 _ rfl; have hx5 := HPc.out.cell 5 _ rfl; have hx6 := HPc.out.cell 6 _ rfl; have hx7 := HPc.out.cell 7 _ rfl; have hx8 := HPc.out.cell 8 _ rfl; have hx9 := HPc.out.cell 9 _ rfl; have hx10 := HPc.out.cell 10 _ rfl
      have hr0 := HXc.out.cell 0 _ rfl; have hr1 := HXc.out.cell 1 _ rfl; have hr2 := HXc.out.cell 2 _ rfl; have hr3 := HXc.out.cell 3 _ rfl; have hr4 := HXc.out.cell 4 _ rfl; have hr5 := HXc.out.cell 5 _ rfl; have hr6 := HXc.out.cell 6 _ rfl; have hr7 := HXc.out.cell 7 _ rfl; have hr8 := HXc.out.cell 8 _ rfl; have hr9 := HXc.out.cell 9 _ rfl; have hr10 := HXc.out.cell 10 _ rfl; have hrf := HXc.out.frozen
      have hGN : World.grownBy (wm.setCell ⟨N, 10, none⟩ (.slice (some ⟨M, 0, none⟩) 8 8)) ((((((((((((wm.setCell ⟨N, 10, none⟩ (.slice (some ⟨M, 0, none⟩) 8 8)).setCell ⟨N + 1, 0, none⟩ (.int .i64 x0)).setCell ⟨N + 1, 1, none⟩ (.int .i64 x1)).setCell ⟨N + 1, 2, none⟩ (.bool x2)).setCell ⟨N + 1, 3, none⟩ (.bool x3)).setCell ⟨N + 1, 4, none⟩ (.int .i64 65528)).setCell ⟨N + 1, 5, none⟩ (.int .i64 x5)).setCell ⟨N + 1, 6, none⟩ (.int .i64 x6)).setCell ⟨N + 1, 7, none⟩ (.int .i64 x7)).setCell ⟨N + 1, 8, none⟩ (.int .i64 x8)).setCell ⟨N + 1, 9, none⟩ (.slice qa yn qc)).setCell ⟨N + 1, 10, none⟩ (.slice (some ⟨M, 0, none⟩) 8 8)) (some (N + 1)) := set11 _ (N + 1) _ _ _ _ _ _ _ _ _ _ _
      have HOz := hide (HNc.out.gr2 hGN (fun k hk => by have := hnq k hk; omega))
      have HQz := hide (HQc.out.gr2 hGN (fun k hk => by have := hq0 k hk; omega))
      have HDz := hide (HDc.out.put HA.out HS.out hGN (by omega))
      clear hGN
      go_wp2_with fail
      subst hN
      exact bodyPost_ret (v := .agg #[.int .i64 x0, .int .i64 x1, .bool x2, .bool x3, .int .i64 65528, .int .i64 x5, .int .i64 x6, .int .i64 x7, .int .i64 x8, .slice qa yn qc, .slice (some ⟨M, 0, none⟩) 8 8]) (by simp [results, Tryz.results56, go_sem, hr0, hr1, hr2, hr3, hr4, hr5, hr6, hr7, hr8, hr9, hr10]) rfl ⟨_, rfl, ⟨_, _, _, _, _, _, _, _, _, _, _, ys, (List.replicate 8 0), rfl, by rw [HYN.out]; omega, by rw [List.length_replicate]; omega, HQz.out, HOz.out, hap2⟩, HDz.out.2.2.1, HDz.out.2.1⟩
  · -- 9
    have hal : Below w1.heap.size w1 (w1.alloc (.cells (bval (List.replicate 44 0)).toArray 5)) := (Below.refl _ _).alloc (Nat.le_refl _) _
    have hw1 : N + 1 < w1.heap.size := HX1.out.lt
    have hBw1 : B ≤ w1.heap.size := by omega
    have HN2 : Hid (OwnB (w1.alloc (.cells (bval (List.replicate 44 0)).toArray 5)) B (.slice (some ⟨w1.heap.size, 0, none⟩) 44 44) (List.replicate 44 0)) := hide (zeros_own w1 44 B hBw1 (by omega))
    have HD2 := hide (HD1.out.next hal); have HP2 := hide (HP1.out.next hal); have HX2 := hide (HX1.out.next hal); have HO2 := hide (HO1.out.nx hal)
    have hap2 : ∀ b, (Value.slice (some ⟨w1.heap.size, 0, none⟩) 44 44).ownBlock = some b → (Value.slice ua zn uc).ownBlock ≠ some b := by intro b hb h2; have h3 := hO0 b h2; have h4 : w1.heap.size = b := (by simpa [Value.ownBlock] using hb); omega
    have hnq : ∀ b, (Value.slice (some ⟨w1.heap.size, 0, none⟩) 44 44).ownBlock = some b → b = w1.heap.size := by intro b hb; simpa [Value.ownBlock] using hb.symm
    have rm := run_bytes 44 w1 (by omega)
    have rm' : (Instr.makeSlice 22 (.int .i64 44) (.int .i64 44)).run Tryz.prog w1 = _ := rm
    clear rm
    generalize hw2 : w1.alloc (.cells (bval (List.replicate 44 0)).toArray 5) = w2 at *
    have hG : w2.grownBy (w2.setCell ⟨N, 9, none⟩ (.slice (some ⟨w1.heap.size, 0, none⟩) 44 44)) (some N) := gset (grown_refl _ _) _ _
    have HP3 : Hid (HoldV (w2.setCell ⟨N, 9, none⟩ (.slice (some ⟨w1.heap.size, 0, none⟩) 44 44)) N #[.int .i64 x0, .int .i64 x1, .bool x2, .bool x3, .int .i64 x4, .int .i64 x5, .int .i64 x6, .int .i64 x7, .int .i64 x8, .slice (some ⟨w1.heap.size, 0, none⟩) 44 44, .slice ua zn uc] pkT) := hide (HP2.out.putc 9 _)
    have HD3 := hide (HD2.out.put HA.out HS.out hG (by omega))
    have HX3 := hide (HX2.out.gr hG (by omega))
    have HO3 := hide (HO2.out.gr2 hG (fun k hk => by have := hO0 k hk; omega))
    have HN3 := hide (HN2.out.gr2 hG (fun k hk => by have := hnq k hk; omega))
    have cc := HP2.out.cell 9 _ rfl; have cf := HP2.out.frozen 9
    clear hG hal
    generalize hM : w1.heap.size = M at *
    have hx0 := HP3.out.cell 0 _ rfl; have hx1 := HP3.out.cell 1 _ rfl; have hx2 := HP3.out.cell 2 _ rfl; have hx3 := HP3.out.cell 3 _ rfl; have hx4 := HP3.out.cell 4 _ rfl; have hx5 := HP3.out.cell 5 _ rfl; have hx6 := HP3.out.cell 6 _ rfl; have hx7 := HP3.out.cell 7 _ rfl; have hx8 := HP3.out.cell 8 _ rfl; have hx9 := HP3.out.cell 9 _ rfl; have hx10 := HP3.out.cell 10 _ rfl
    have hr0 := HX3.out.cell 0 _ rfl; have hr1 := HX3.out.cell 1 _ rfl; have hr2 := HX3.out.cell 2 _ rfl; have hr3 := HX3.out.cell 3 _ rfl; have hr4 := HX3.out.cell 4 _ rfl; have hr5 := HX3.out.cell 5 _ rfl; have hr6 := HX3.out.cell 6 _ rfl; have hr7 := HX3.out.cell 7 _ rfl; have hr8 := HX3.out.cell 8 _ rfl; have hr9 := HX3.out.cell 9 _ rfl; have hr10 := HX3.out.cell 10 _ rfl; have hrf := HX3.out.frozen
    have hGN : World.grownBy (w2.setCell ⟨N, 9, none⟩ (.slice (some ⟨M, 0, none⟩) 44 44)) ((((((((((((w2.setCell ⟨N, 9, none⟩ (.slice (some ⟨M, 0, none⟩) 44 44)).setCell ⟨N + 1, 0, none⟩ (.int .i64 x0)).setCell ⟨N + 1, 1, none⟩ (.int .i64 x1)).setCell ⟨N + 1, 2, none⟩ (.bool x2)).setCell ⟨N + 1, 3, none⟩ (.bool x3)).setCell ⟨N + 1, 4, none⟩ (.int .i64 x4)).setCell ⟨N + 1, 5, none⟩ (.int .i64 x5)).setCell ⟨N + 1, 6, none⟩ (.int .i64 x6)).setCell ⟨N + 1, 7, none⟩ (.int .i64 x7)).setCell ⟨N + 1, 8, none⟩ (.int .i64 x8)).setCell ⟨N + 1, 9, none⟩ (.slice (some ⟨M, 0, none⟩) 44 44)).setCell ⟨N + 1, 10, none⟩ (.slice ua zn uc)) (some (N + 1)) := set11 _ (N + 1) _ _ _ _ _ _ _ _ _ _ _
    have HOz := hide (HO3.out.gr2 hGN (fun k hk => by have := hO0 k hk; omega))
    have HQz := hide (HN3.out.gr2 hGN (fun k hk => by have := hnq k hk; omega))
    have HDz := hide (HD3.out.put HA.out HS.out hGN (by omega))
    clear hGN
    go_wp2_with fail
    subst hN
    exact bodyPost_ret (v := .agg #[.int .i64 x0, .int .i64 x1, .bool x2, .bool x3, .int .i64 x4, .int .i64 x5, .int .i64 x6, .int .i64 x7, .int .i64 x8, .slice (some ⟨M, 0, none⟩) 44 44, .slice ua zn uc]) (by simp [results, Tryz.results56, go_sem, hr0, hr1, hr2, hr3, hr4, hr5, hr6, hr7, hr8, hr9, hr10]) rfl ⟨_, rfl, ⟨_, _, _, _, _, _, _, _, _, _, _, (List.replicate 44 0), z, rfl, by simp, by rw [HZN.out]; omega, HQz.out, HOz.out, hap2⟩, HDz.out.2.2.1, HDz.out.2.1⟩
  · -- 10
    have b0 : (r == 0) = false := beq_eq_false_iff_ne.2 (by omega); have b1 : (r == 1) = false := beq_eq_false_iff_ne.2 (by omega); have b2 : (r == 2) = false := beq_eq_false_iff_ne.2 (by omega); have b3 : (r == 3) = false := beq_eq_false_iff_ne.2 (by omega); have b4 : (r == 4) = false := beq_eq_false_iff_ne.2 (by omega); have b5 : (r == 5) = false := beq_eq_false_iff_ne.2 (by omega); have b6 : (r == 6) = false := beq_eq_false_iff_ne.2 (by omega); have b7 : (r == 7) = false := beq_eq_false_iff_ne.2 (by omega); have b8 : (r == 8) = false := beq_eq_false_iff_ne.2 (by omega); have b9 : (r == 9) = false := beq_eq_false_iff_ne.2 (by omega)
    have hx0 := HP1.out.cell 0 _ rfl; have hx1 := HP1.out.cell 1 _ rfl; have hx2 := HP1.out.cell 2 _ rfl; have hx3 := HP1.out.cell 3 _ rfl; have hx4 := HP1.out.cell 4 _ rfl; have hx5 := HP1.out.cell 5 _ rfl; have hx6 := HP1.out.cell 6 _ rfl; have hx7 := HP1.out.cell 7 _ rfl; have hx8 := HP1.out.cell 8 _ rfl; have hx9 := HP1.out.cell 9 _ rfl; have hx10 := HP1.out.cell 10 _ rfl
    have hr0 := HX1.out.cell 0 _ rfl; have hr1 := HX1.out.cell 1 _ rfl; have hr2 := HX1.out.cell 2 _ rfl; have hr3 := HX1.out.cell 3 _ rfl; have hr4 := HX1.out.cell 4 _ rfl; have hr5 := HX1.out.cell 5 _ rfl; have hr6 := HX1.out.cell 6 _ rfl; have hr7 := HX1.out.cell 7 _ rfl; have hr8 := HX1.out.cell 8 _ rfl; have hr9 := HX1.out.cell 9 _ rfl; have hr10 := HX1.out.cell 10 _ rfl; have hrf := HX1.out.frozen
    have hGN : World.grownBy w1 (((((((((((w1.setCell ⟨N + 1, 0, none⟩ (.int .i64 x0)).setCell ⟨N + 1, 1, none⟩ (.int .i64 x1)).setCell ⟨N + 1, 2, none⟩ (.bool x2)).setCell ⟨N + 1, 3, none⟩ (.bool x3)).setCell ⟨N + 1, 4, none⟩ (.int .i64 x4)).setCell ⟨N + 1, 5, none⟩ (.int .i64 x5)).setCell ⟨N + 1, 6, none⟩ (.int .i64 x6)).setCell ⟨N + 1, 7, none⟩ (.int .i64 x7)).setCell ⟨N + 1, 8, none⟩ (.int .i64 x8)).setCell ⟨N + 1, 9, none⟩ (.slice qa yn qc)).setCell ⟨N + 1, 10, none⟩ (.slice ua zn uc)) (some (N + 1)) := set11 _ (N + 1) _ _ _ _ _ _ _ _ _ _ _
    have HOz := hide (HO1.out.gr2 hGN (fun k hk => by have := hO0 k hk; omega))
    have HQz := hide (HQ1.out.gr2 hGN (fun k hk => by have := hq0 k hk; omega))
    have HDz := hide (HD1.out.put HA.out HS.out hGN (by omega))
    clear hGN
    go_wp2_with fail
    subst hN
    exact bodyPost_ret (v := .agg #[.int .i64 x0, .int .i64 x1, .bool x2, .bool x3, .int .i64 x4, .int .i64 x5, .int .i64 x6, .int .i64 x7, .int .i64 x8, .slice qa yn qc, .slice ua zn uc]) (by simp [results, Tryz.results56, go_sem, hr0, hr1, hr2, hr3, hr4, hr5, hr6, hr7, hr8, hr9, hr10]) rfl ⟨_, rfl, ⟨_, _, _, _, _, _, _, _, _, _, _, ys, z, rfl, by rw [HYN.out]; omega, by rw [HZN.out]; omega, HQz.out, HOz.out, HAP.out⟩, HDz.out.2.2.1, HDz.out.2.1⟩
set_option maxRecDepth 100000
set_option maxHeartbeats 1000000 in
theorem l01Begin_walk (a : Option Addr) (n cap : Nat) (zs : List Int) (w : World) (hn : zs.length = n) (ha : Arr w a zs) (hm : n ≤ 2097152) :
    Calls Tryz.prog 52 #[.slice a n cap] w fun e w' => ∃ st : Int, e = .returned (.agg #[.slice a n cap, .int .i64 0, .int .u64 st]) ∧ 0 ≤ st ∧ st ≤ 18446744073709551615 ∧ Below w.heap.size w w' := by
  have HN := hide hn
  have HA := hide ha
  clear hn ha
  go_enter Tryz.func52, Tryz.ntmps52
  go_wp2_with fail
  have hmade := hide (made_start w 45 a n cap 1469598103934665603 (by omega) (by omega))
  generalize (w.alloc (.cells #[.slice none 0 0, .int .i64 0, .int .u64 0] 45)).alloc (.cells #[.slice a n cap, .int .i64 0, .int .u64 1469598103934665603] 45) = W at *
  go_loopw [4] (fun t w2 => ∃ k : Nat, k ≤ n ∧ t = .int .i64 k ∧ Hid (Made w w2 45 a n cap)) (fun t _ => n - (intOf t).toNat)
  case atStart => exact ⟨0, Nat.zero_le _, rfl, hmade⟩
  case round =>
    obtain ⟨k, hk, rfl, HM⟩ := hrel
    obtain ⟨hb, hz, hr, st, hs0, hs1, hg⟩ := HM.out
    by_cases hlt : k < n
    · obtain ⟨b, off, rfl, hbs, hc0⟩ := HA.out.2 k (by rw [HN.out]; exact hlt)
      have hc : wr.cell? ⟨b, off + k, none⟩ = some (.int .u8 (zs.getD k 0)) := by rw [hb.cell (p := ⟨b, off + k, none⟩) hbs]; exact hc0
      clear hc0
      have hz := getD_bd HA.out.1 k
      generalize zs.getD k 0 = z at *
      obtain ⟨c0, c1, c2, hf⟩ := src_cells hg
      clear hr hg hmade c0 c1
      have hx := xor_u64_bd st z
      go_wp2
      go_region
      go_wp2
      have hw := wrap_u64_bd (bits .xor .u64 st z * 1099511628211)
      exact ⟨⟨k + 1, by omega, by go_num, hide (made_set HM.out _ hw.1 hw.2)⟩, by simp [intOf]; omega⟩
    · obtain ⟨c0, c1, c2, hf⟩ := src_cells hg
      obtain ⟨d0, d1, d2, hf2⟩ := src_cells hr
      clear hr hg hmade
      go_wp2
      exact bodyPost_ret (v := .agg #[.slice a n cap, .int .i64 0, .int .u64 st]) (by simp [results, Tryz.results52, go_sem, d0, d1, d2]) rfl ⟨st, rfl, hs0, hs1, ((hb.setCell (Nat.le_refl _) _).setCell (Nat.le_refl _) _).setCell (Nat.le_refl _) _⟩
set_option maxRecDepth 100000
theorem own_cellx {w : World} {B ub n cap : Nat} {zs : List Int} (h : OwnB w B (.slice (some ⟨ub, 0, none⟩) n cap) zs) (hn : zs.length = n) (i : Nat) (hi : i < n) : ∃ x, w.cell? ⟨ub, i, none⟩ = some (.int .u8 x) := by
  subst hn
  exact ⟨_, by rw [h.1.cellAt i (by omega), bval_get zs i hi]⟩
theorem own_frozen {w : World} {B ub n cap : Nat} {zs : List Int} (h : OwnB w B (.slice (some ⟨ub, 0, none⟩) n cap) zs) (i : Nat) : w.frozen? ⟨ub, i, none⟩ = false := by
  rcases h.1.2 with ⟨hn, _⟩ | ⟨r, c, cur, hv, hr, hc, rest⟩
  · cases hn
  · injection hv with h1; injection h1 with h2; injection h2 with h3; subst h3
    exact frozen_of_row w _ i _ _ hc
/-- What each operation leaves where a payload's first byte is set. -/
def A74 (g P ub zn uc : Nat) : Nat → Value → World → Prop
  | 0, v, _ => v = .pointer (some ⟨P, 10, none⟩)
  | 1, v, _ => v = .slice (some ⟨ub, 0, none⟩) zn uc
  | 2, v, W => ∃ b : Nat, v = .slice (some ⟨b, 0, none⟩) 4 4 ∧ HoldV W b #[.int .i64 0, .int .i64 3, .int .i64 8, .int .i64 11] 2 ∧ b ≠ g
  | 3, v, _ => ∃ r : Int, v = .int .i64 r ∧ 0 ≤ r ∧ r < 4
  | 4, v, W => ∃ b k : Nat, v = .pointer (some ⟨b, k, none⟩) ∧ HoldV W b #[.int .i64 0, .int .i64 3, .int .i64 8, .int .i64 11] 2 ∧ b ≠ g ∧ k < 4
  | 5, v, _ => ∃ r : Int, v = .int .i64 r ∧ 0 ≤ r ∧ r ≤ 255
  | 6, v, _ => ∃ r : Int, v = .int .u8 r ∧ 0 ≤ r ∧ r ≤ 255
  | 7, v, _ => v = .pointer (some ⟨ub, 0, none⟩)
  | _, _, _ => True
theorem A74_kept {g P ub zn uc : Nat} : ∀ (k : Nat) (v : Value) (W W' : World), W.grownBy W' (some g) → A74 g P ub zn uc k v W → A74 g P ub zn uc k v W' := by
  intro k v W W' hg h
  unfold A74 at h ⊢
  split at h
  all_goals first
    | exact h
    | (obtain ⟨b, e, hh, hb⟩ := h; exact ⟨b, e, hh.gr hg hb, hb⟩)
    | (obtain ⟨b, k, e, hh, hb, hc⟩ := h; exact ⟨b, k, e, hh.gr hg hb, hb, hc⟩)
set_option maxHeartbeats 16000000 in
theorem drawMay_walk (a : Option Addr) (n cap : Nat) (zs : List Int) (w : World) (hn : zs.length = n) (ha : Arr w a zs) (hm : n ≤ 2097152) :
    Calls Tryz.prog 15 #[.slice a n cap] w fun e w' => ∃ v, e = .returned v ∧ PkV w' w.heap.size v 44 65516 ∧ Below w.heap.size w w' := by
  have hb0 : Below w.heap.size w (w.alloc (.cells #[.int .i64 0, .int .i64 0, .bool false, .bool false, .int .i64 0, .int .i64 0, .int .i64 0, .int .i64 0, .int .i64 0, .slice none 0 0, .slice none 0 0] pkT)) := (Below.refl _ _).alloc (Nat.le_refl _) _
  have HX0 : Hid (HoldV (w.alloc (.cells #[.int .i64 0, .int .i64 0, .bool false, .bool false, .int .i64 0, .int .i64 0, .int .i64 0, .int .i64 0, .int .i64 0, .slice none 0 0, .slice none 0 0] pkT)) w.heap.size #[.int .i64 0, .int .i64 0, .bool false, .bool false, .int .i64 0, .int .i64 0, .int .i64 0, .int .i64 0, .int .i64 0, .slice none 0 0, .slice none 0 0] pkT) := hide (heap_alloc_new _ _)
  have HB0 := hide hb0
  have HA0 := hide (ha.below hb0 (Nat.le_refl _))
  have HN := hide hn
  clear hb0 ha hn
  go_enter Tryz.func15, Tryz.ntmps15
  go_wp2_with fail
  generalize w.alloc (.cells #[.int .i64 0, .int .i64 0, .bool false, .bool false, .int .i64 0, .int .i64 0, .int .i64 0, .int .i64 0, .int .i64 0, .slice none 0 0, .slice none 0 0] pkT) = W0 at *
  refine (l01Begin_walk a n cap zs W0 HN.out HA0.out hm).mono ?_
  rintro e w1 ⟨st, rfl, st0, st1, hb1⟩
  have HB1 := hide (HB0.out.trans (hb1.mono (by have := HX0.out.lt; omega)))
  have HX1 := hide (HX0.out.next hb1)
  have HA1 := hide (HA0.out.below hb1 (Nat.le_refl _))
  clear hb1 HB0 HX0 HA0
  have hal : Below w1.heap.size w1 (w1.alloc (.cells #[.slice a n cap, .int .i64 0, .int .u64 st] srT)) := (Below.refl _ _).alloc (Nat.le_refl _) _
  have hsr : SrcA (w1.alloc (.cells #[.slice a n cap, .int .i64 0, .int .u64 st] srT)) w1.heap.size srT n a cap := ⟨0, st, heap_alloc_new _ _, by omega, by omega, st0, st1⟩
  have hxlt := HX1.out.lt
  have HX2 := hide (HX1.out.next hal)
  have HB2 := hide (HB1.out.trans (hal.mono (by omega)))
  have HA2 := hide (HA1.out.below hal (Nat.le_refl _))
  have hsz : (w1.alloc (.cells #[.slice a n cap, .int .i64 0, .int .u64 st] srT)).heap.size = w1.heap.size + 1 := World.size_alloc _ _
  have HS2 := hide hsr
  clear hsr hal HX1 HB1 HA1
  go_wp2_with fail
  generalize w1.alloc (.cells #[.slice a n cap, .int .i64 0, .int .u64 st] srT) = W2 at *
  generalize hX : w.heap.size = X at *
  generalize hg : w1.heap.size = g at *
  rw [← HN.out] at HS2
  have hl : zs.length ≤ 2097152 := by rw [HN.out]; exact hm
  have HSZ := hide hsz
  clear hsz hg
  refine (l05Packet_walk g 20 zs W2 a cap HA2.out HS2.out hl (by omega)).mono ?_
  rintro e w3 ⟨v, rfl, ⟨x0, x1, x2, x3, x4, x5, x6, x7, x8, u0, u1, ys, z, rfl, hy, hz, hq, hO, hap⟩, hg3, hs3⟩
  have HD3 := hide ((DSr.start HA2.out HS2.out).step hg3 hs3)
  have HX3 := hide (HX2.out.gr hg3 (show X ≠ g by omega))
  obtain ⟨qa, qc, hu0, _⟩ := own_slice hq
  obtain ⟨ua, uc, hu1, _⟩ := own_slice hO
  have HYL := hide hy
  have HZL := hide hz
  clear hy hz
  generalize hyn : ys.length = yn at *
  generalize hzn : z.length = zn at *
  have HYN := hide hyn
  have HZN := hide hzn
  clear hyn hzn
  subst hu0 hu1
  have hal : Below w3.heap.size w3 (w3.alloc (.cells #[.int .i64 x0, .int .i64 x1, .bool x2, .bool x3, .int .i64 x4, .int .i64 x5, .int .i64 x6, .int .i64 x7, .int .i64 x8, .slice qa yn qc, .slice ua zn uc] pkT)) := (Below.refl _ _).alloc (Nat.le_refl _) _
  have HP4 : Hid (HoldV (w3.alloc (.cells #[.int .i64 x0, .int .i64 x1, .bool x2, .bool x3, .int .i64 x4, .int .i64 x5, .int .i64 x6, .int .i64 x7, .int .i64 x8, .slice qa yn qc, .slice ua zn uc] pkT)) w3.heap.size #[.int .i64 x0, .int .i64 x1, .bool x2, .bool x3, .int .i64 x4, .int .i64 x5, .int .i64 x6, .int .i64 x7, .int .i64 x8, .slice qa yn qc, .slice ua zn uc] pkT) := hide (heap_alloc_new _ _)
  have HD4 := hide (HD3.out.next hal)
  have HX4 := hide (HX3.out.next hal)
  have HQ4 := hide (hq.nx hal)
  have HO4 := hide (hO.nx hal)
  have hw3 := hg3.size
  have hsz3 := HSZ.out
  have hqP : ∀ k, (Value.slice qa yn qc).ownBlock = some k → k < w3.heap.size := fun k hk => (hq.1.lt k hk).2
  have hOP : ∀ k, (Value.slice ua zn uc).ownBlock = some k → k < w3.heap.size := fun k hk => (hO.1.lt k hk).2
  have hqB : ∀ k, (Value.slice qa yn qc).ownBlock = some k → g < k := fun k hk => by have := (hq.1.lt k hk).1; omega
  have hOB : ∀ k, (Value.slice ua zn uc).ownBlock = some k → g < k := fun k hk => by have := (hO.1.lt k hk).1; omega
  have HAP := hide hap
  clear hal hq hO hap hg3 hs3 HD3 HX3
  go_upto_region 3 with fail
  generalize w3.alloc (.cells #[.int .i64 x0, .int .i64 x1, .bool x2, .bool x3, .int .i64 x4, .int .i64 x5, .int .i64 x6, .int .i64 x7, .int .i64 x8, .slice qa yn qc, .slice ua zn uc] pkT) = w4 at *
  generalize hP : w3.heap.size = P at *
  have hPg : g < P := by omega
  have hBP : W2.heap.size ≤ P := by omega
  have hgB : g < W2.heap.size := by omega
  have hXg : X < g := by omega
  clear hP hw3 hsz3 hxlt
  have hp6 := HP4.out.cell 6 _ rfl; have hp10 := HP4.out.cell 10 _ rfl
  by_cases h6 : x6 = 1
  · subst h6
    by_cases hz0 : 0 < zn
    · have hz1 : (0 : Int) < (zn : Int) := by omega
      go_wp2_with fail
      refine (l01Bool_walk g zs _ a cap HD4.out.1 HD4.out.2.1 hl).mono ?_
      rintro e w5 ⟨q, rfl, hg1, hs1⟩
      have HD5 := hide (HD4.out.step hg1 hs1); have HP5 := hide (HP4.out.gr hg1 (show P ≠ g by omega)); have HX5 := hide (HX4.out.gr hg1 (show X ≠ g by omega)); have HQ5 := hide (HQ4.out.gr hg1 hgB); have HO5 := hide (HO4.out.gr hg1 hgB)
      clear hg1 hs1 HD4 HP4 HX4 HQ4 HO4
      clear hp6 hp10
      cases hqb : (q == 0)
      · clear hqb
        go_wp2_with fail
        refine (l01Next_walk g 8 zs _ a cap HD5.out.1 HD5.out.2.1 (by omega) (by omega) hl).mono ?_
        rintro e w7 ⟨r, rfl, r0, r1, hg1, hs1⟩
        have HD7 := hide (HD5.out.step hg1 hs1); have HP7 := hide (HP5.out.gr hg1 (show P ≠ g by omega)); have HX7 := hide (HX5.out.gr hg1 (show X ≠ g by omega)); have HQ7 := hide (HQ5.out.gr hg1 hgB); have HO7 := hide (HO5.out.gr hg1 hgB)
        clear hg1 hs1 HD5 HP5 HX5 HQ5 HO5
        rcases (show r = 0 ∨ r = 1 ∨ r = 2 ∨ 3 ≤ r by omega) with rfl | rfl | rfl | hr
        · -- 0
          go_wp2_with fail
          refine (l02Addr_walk g zs _ a cap HD7.out.1 HD7.out.2.1 hl).mono ?_
          rintro e w8 ⟨t, rfl, _, _, hg1, hs1⟩
          have HD8 := hide (HD7.out.step hg1 hs1); have HP8 := hide (HP7.out.gr hg1 (show P ≠ g by omega)); have HX8 := hide (HX7.out.gr hg1 (show X ≠ g by omega)); have HQ8 := hide (HQ7.out.gr hg1 hgB); have HO8 := hide (HO7.out.gr hg1 hgB)
          clear hg1 hs1 HD7 HP7 HX7 HQ7 HO7
          have hG : World.grownBy w8 (w8.setCell ⟨P, 7, none⟩ (.int .i64 t)) (some P) := gset (grown_refl _ _) _ _
          have HP9 : Hid (HoldV (w8.setCell ⟨P, 7, none⟩ (.int .i64 t)) P #[.int .i64 x0, .int .i64 x1, .bool x2, .bool x3, .int .i64 x4, .int .i64 x5, .int .i64 1, .int .i64 t, .int .i64 x8, .slice qa yn qc, .slice ua zn uc] pkT) := hide (HP8.out.putc 7 _)
          have HD9 := hide (HD8.out.put HA2.out HS2.out hG hBP)
          have HX9 := hide (HX8.out.gr hG (by omega))
          have HQ9 := hide (HQ8.out.gr2 hG (fun k hk => by have := hqP k hk; omega))
          have HO9 := hide (HO8.out.gr2 hG (fun k hk => by have := hOP k hk; omega))
          have cc := HP8.out.cell 7 _ rfl; have cf := HP8.out.frozen 7
          clear hG
          have hx0 := HP9.out.cell 0 _ rfl; have hx1 := HP9.out.cell 1 _ rfl; have hx2 := HP9.out.cell 2 _ rfl; have hx3 := HP9.out.cell 3 _ rfl; have hx4 := HP9.out.cell 4 _ rfl; have hx5 := HP9.out.cell 5 _ rfl; have hx6 := HP9.out.cell 6 _ rfl; have hx7 := HP9.out.cell 7 _ rfl; have hx8 := HP9.out.cell 8 _ rfl; have hx9 := HP9.out.cell 9 _ rfl; have hx10 := HP9.out.cell 10 _ rfl
          have hr0 := HX9.out.cell 0 _ rfl; have hr1 := HX9.out.cell 1 _ rfl; have hr2 := HX9.out.cell 2 _ rfl; have hr3 := HX9.out.cell 3 _ rfl; have hr4 := HX9.out.cell 4 _ rfl; have hr5 := HX9.out.cell 5 _ rfl; have hr6 := HX9.out.cell 6 _ rfl; have hr7 := HX9.out.cell 7 _ rfl; have hr8 := HX9.out.cell 8 _ rfl; have hr9 := HX9.out.cell 9 _ rfl; have hr10 := HX9.out.cell 10 _ rfl; have hrf := HX9.out.frozen
          have hGN : World.grownBy (w8.setCell ⟨P, 7, none⟩ (.int .i64 t)) ((((((((((((w8.setCell ⟨P, 7, none⟩ (.int .i64 t)).setCell ⟨X, 0, none⟩ (.int .i64 x0)).setCell ⟨X, 1, none⟩ (.int .i64 x1)).setCell ⟨X, 2, none⟩ (.bool x2)).setCell ⟨X, 3, none⟩ (.bool x3)).setCell ⟨X, 4, none⟩ (.int .i64 x4)).setCell ⟨X, 5, none⟩ (.int .i64 x5)).setCell ⟨X, 6, none⟩ (.int .i64 1)).setCell ⟨X, 7, none⟩ (.int .i64 t)).setCell ⟨X, 8, none⟩ (.int .i64 x8)).setCell ⟨X, 9, none⟩ (.slice qa yn qc)).setCell ⟨X, 10, none⟩ (.slice ua zn uc)) (some X) := set11 _ X _ _ _ _ _ _ _ _ _ _ _
          have HOz := hide ((HO9.out.gr2 hGN (own_ne HO9.out HX9.out (by decide))).low (show X ≤ W2.heap.size by omega))
          have HQz := hide ((HQ9.out.gr2 hGN (own_ne HQ9.out HX9.out (by decide))).low (show X ≤ W2.heap.size by omega))
          have HBz := hide ((HB2.out.trans (below_grown (show X ≤ g by omega) (show X ≤ W2.heap.size by omega) HD9.out.2.2.1)).trans (below_grown (Nat.le_refl X) (by have := HX9.out.lt; omega) hGN))
          clear hGN
          go_wp2_with fail
          subst hX
          exact bodyPost_ret (v := .agg #[.int .i64 x0, .int .i64 x1, .bool x2, .bool x3, .int .i64 x4, .int .i64 x5, .int .i64 1, .int .i64 t, .int .i64 x8, .slice qa yn qc, .slice ua zn uc]) (by simp [results, Tryz.results15, go_sem, hr0, hr1, hr2, hr3, hr4, hr5, hr6, hr7, hr8, hr9, hr10]) rfl ⟨_, rfl, ⟨_, _, _, _, _, _, _, _, _, _, _, ys, z, rfl, by have := HYL.out; have := HYN.out; omega, by have := HZL.out; have := HZN.out; omega, HQz.out, HOz.out, HAP.out⟩, HBz.out⟩
        · -- 1
          go_wp2_with fail
          refine (l02Addr_walk g zs _ a cap HD7.out.1 HD7.out.2.1 hl).mono ?_
          rintro e w8 ⟨t, rfl, _, _, hg1, hs1⟩
          have HD8 := hide (HD7.out.step hg1 hs1); have HP8 := hide (HP7.out.gr hg1 (show P ≠ g by omega)); have HX8 := hide (HX7.out.gr hg1 (show X ≠ g by omega)); have HQ8 := hide (HQ7.out.gr hg1 hgB); have HO8 := hide (HO7.out.gr hg1 hgB)
          clear hg1 hs1 HD7 HP7 HX7 HQ7 HO7
          have hG : World.grownBy w8 (w8.setCell ⟨P, 8, none⟩ (.int .i64 t)) (some P) := gset (grown_refl _ _) _ _
          have HP9 : Hid (HoldV (w8.setCell ⟨P, 8, none⟩ (.int .i64 t)) P #[.int .i64 x0, .int .i64 x1, .bool x2, .bool x3, .int .i64 x4, .int .i64 x5, .int .i64 1, .int .i64 x7, .int .i64 t, .slice qa yn qc, .slice ua zn uc] pkT) := hide (HP8.out.putc 8 _)
          have HD9 := hide (HD8.out.put HA2.out HS2.out hG hBP)
          have HX9 := hide (HX8.out.gr hG (by omega))
          have HQ9 := hide (HQ8.out.gr2 hG (fun k hk => by have := hqP k hk; omega))
          have HO9 := hide (HO8.out.gr2 hG (fun k hk => by have := hOP k hk; omega))
          have cc := HP8.out.cell 8 _ rfl; have cf := HP8.out.frozen 8
          clear hG
          have hx0 := HP9.out.cell 0 _ rfl; have hx1 := HP9.out.cell 1 _ rfl; have hx2 := HP9.out.cell 2 _ rfl; have hx3 := HP9.out.cell 3 _ rfl; have hx4 := HP9.out.cell 4 _ rfl; have hx5 := HP9.out.cell 5 _ rfl; have hx6 := HP9.out.cell 6 _ rfl; have hx7 := HP9.out.cell 7 _ rfl; have hx8 := HP9.out.cell 8 _ rfl; have hx9 := HP9.out.cell 9 _ rfl; have hx10 := HP9.out.cell 10 _ rfl
          have hr0 := HX9.out.cell 0 _ rfl; have hr1 := HX9.out.cell 1 _ rfl; have hr2 := HX9.out.cell 2 _ rfl; have hr3 := HX9.out.cell 3 _ rfl; have hr4 := HX9.out.cell 4 _ rfl; have hr5 := HX9.out.cell 5 _ rfl; have hr6 := HX9.out.cell 6 _ rfl; have hr7 := HX9.out.cell 7 _ rfl; have hr8 := HX9.out.cell 8 _ rfl; have hr9 := HX9.out.cell 9 _ rfl; have hr10 := HX9.out.cell 10 _ rfl; have hrf := HX9.out.frozen
          have hGN : World.grownBy (w8.setCell ⟨P, 8, none⟩ (.int .i64 t)) ((((((((((((w8.setCell ⟨P, 8, none⟩ (.int .i64 t)).setCell ⟨X, 0, none⟩ (.int .i64 x0)).setCell ⟨X, 1, none⟩ (.int .i64 x1)).setCell ⟨X, 2, none⟩ (.bool x2)).setCell ⟨X, 3, none⟩ (.bool x3)).setCell ⟨X, 4, none⟩ (.int .i64 x4)).setCell ⟨X, 5, none⟩ (.int .i64 x5)).setCell ⟨X, 6, none⟩ (.int .i64 1)).setCell ⟨X, 7, none⟩ (.int .i64 x7)).setCell ⟨X, 8, none⟩ (.int .i64 t)).setCell ⟨X, 9, none⟩ (.slice qa yn qc)).setCell ⟨X, 10, none⟩ (.slice ua zn uc)) (some X) := set11 _ X _ _ _ _ _ _ _ _ _ _ _
          have HOz := hide ((HO9.out.gr2 hGN (own_ne HO9.out HX9.out (by decide))).low (show X ≤ W2.heap.size by omega))
          have HQz := hide ((HQ9.out.gr2 hGN (own_ne HQ9.out HX9.out (by decide))).low (show X ≤ W2.heap.size by omega))
          have HBz := hide ((HB2.out.trans (below_grown (show X ≤ g by omega) (show X ≤ W2.heap.size by omega) HD9.out.2.2.1)).trans (below_grown (Nat.le_refl X) (by have := HX9.out.lt; omega) hGN))
          clear hGN
          go_wp2_with fail
          subst hX
          exact bodyPost_ret (v := .agg #[.int .i64 x0, .int .i64 x1, .bool x2, .bool x3, .int .i64 x4, .int .i64 x5, .int .i64 1, .int .i64 x7, .int .i64 t, .slice qa yn qc, .slice ua zn uc]) (by simp [results, Tryz.results15, go_sem, hr0, hr1, hr2, hr3, hr4, hr5, hr6, hr7, hr8, hr9, hr10]) rfl ⟨_, rfl, ⟨_, _, _, _, _, _, _, _, _, _, _, ys, z, rfl, by have := HYL.out; have := HYN.out; omega, by have := HZL.out; have := HZN.out; omega, HQz.out, HOz.out, HAP.out⟩, HBz.out⟩
        · -- 2
          have hp0 := HP7.out.cell 0 _ rfl; have hp1 := HP7.out.cell 1 _ rfl; have hp2 := HP7.out.cell 2 _ rfl; have hp3 := HP7.out.cell 3 _ rfl; have hp4 := HP7.out.cell 4 _ rfl; have hp5 := HP7.out.cell 5 _ rfl; have hp6 := HP7.out.cell 6 _ rfl; have hp7 := HP7.out.cell 7 _ rfl; have hp8 := HP7.out.cell 8 _ rfl; have hp9 := HP7.out.cell 9 _ rfl; have hp10 := HP7.out.cell 10 _ rfl
          have hszw : W2.heap.size ≤ w7.heap.size := HD7.out.2.2.1.size
          have CB := hide (l05Bend_walk g zs w7 a cap HD7.out.1 HD7.out.2.1 hl W2.heap.size hgB hszw x0 x1 x2 x3 x4 x5 1 x7 x8 qa yn qc ua zn uc ys z HYN.out HZN.out (by have := HYL.out; omega) (by have := HZL.out; omega) HQ7.out HO7.out HAP.out)
          go_wp2_with fail
          refine CB.out.mono ?_
          clear CB hp0 hp1 hp2 hp3 hp4 hp5 hp6 hp7 hp8 hp9 hp10
          rintro e w8 ⟨v, rfl, ⟨y0, y1, y2, y3, y4, y5, y6, y7, y8, u0, u1, ys2, z2, rfl, hy2, hz2, hq2, hO2, hapM⟩, hg1, hs1⟩
          have HD8 := hide (HD7.out.step hg1 hs1); have HP8 := hide (HP7.out.gr hg1 (show P ≠ g by omega)); have HX8 := hide (HX7.out.gr hg1 (show X ≠ g by omega))
          have HQ8 := hide hq2; have HO8 := hide hO2; have HYM := hide hy2; have HZM := hide hz2
          clear hg1 hs1 HD7 HP7 HX7 HQ7 HO7 hq2 hO2 hy2 hz2 hszw
          obtain ⟨qa2, qc2, hu0, _⟩ := own_slice HQ8.out
          obtain ⟨ua2, uc2, hu1, _⟩ := own_slice HO8.out
          have HYM2 : Hid (∃ l : List Int, l = ys2) := hide ⟨_, rfl⟩
          generalize hyn2 : ys2.length = yn2 at *
          generalize hzn2 : z2.length = zn2 at *
          subst hu0 hu1
          have hG : w8.grownBy (((((((((((w8.setCell ⟨P, 0, none⟩ (.int .i64 y0)).setCell ⟨P, 1, none⟩ (.int .i64 y1)).setCell ⟨P, 2, none⟩ (.bool y2)).setCell ⟨P, 3, none⟩ (.bool y3)).setCell ⟨P, 4, none⟩ (.int .i64 y4)).setCell ⟨P, 5, none⟩ (.int .i64 y5)).setCell ⟨P, 6, none⟩ (.int .i64 y6)).setCell ⟨P, 7, none⟩ (.int .i64 y7)).setCell ⟨P, 8, none⟩ (.int .i64 y8)).setCell ⟨P, 9, none⟩ (.slice qa2 yn2 qc2)).setCell ⟨P, 10, none⟩ (.slice ua2 zn2 uc2)) (some P) := set11 _ P _ _ _ _ _ _ _ _ _ _ _
          have HP9 : Hid (HoldV (((((((((((w8.setCell ⟨P, 0, none⟩ (.int .i64 y0)).setCell ⟨P, 1, none⟩ (.int .i64 y1)).setCell ⟨P, 2, none⟩ (.bool y2)).setCell ⟨P, 3, none⟩ (.bool y3)).setCell ⟨P, 4, none⟩ (.int .i64 y4)).setCell ⟨P, 5, none⟩ (.int .i64 y5)).setCell ⟨P, 6, none⟩ (.int .i64 y6)).setCell ⟨P, 7, none⟩ (.int .i64 y7)).setCell ⟨P, 8, none⟩ (.int .i64 y8)).setCell ⟨P, 9, none⟩ (.slice qa2 yn2 qc2)).setCell ⟨P, 10, none⟩ (.slice ua2 zn2 uc2)) P #[.int .i64 y0, .int .i64 y1, .bool y2, .bool y3, .int .i64 y4, .int .i64 y5, .int .i64 y6, .int .i64 y7, .int .i64 y8, .slice qa2 yn2 qc2, .slice ua2 zn2 uc2] pkT) := hide (HP8.out.set11 _ _ _ _ _ _ _ _ _ _ _)
          have HD9 := hide (HD8.out.put HA2.out HS2.out hG hBP); have HX9 := hide (HX8.out.gr hG (by omega))
          have HQ9 := hide (HQ8.out.gr2 hG (own_ne HQ8.out HP8.out (by decide))); have HO9 := hide (HO8.out.gr2 hG (own_ne HO8.out HP8.out (by decide)))
          have hc0 := HP8.out.cell 0 _ rfl; have hc1 := HP8.out.cell 1 _ rfl; have hc2 := HP8.out.cell 2 _ rfl; have hc3 := HP8.out.cell 3 _ rfl; have hc4 := HP8.out.cell 4 _ rfl; have hc5 := HP8.out.cell 5 _ rfl; have hc6 := HP8.out.cell 6 _ rfl; have hc7 := HP8.out.cell 7 _ rfl; have hc8 := HP8.out.cell 8 _ rfl; have hc9 := HP8.out.cell 9 _ rfl; have hc10 := HP8.out.cell 10 _ rfl; have hcf := HP8.out.frozen
          clear hG
          replace HYM : Hid (ys2.length ≤ 44) := hide (by rw [hyn2]; exact HYM.out)
          replace HZM : Hid (z2.length ≤ 65516) := hide (by rw [hzn2]; exact HZM.out)
          clear hyn2 hzn2
          have hx0 := HP9.out.cell 0 _ rfl; have hx1 := HP9.out.cell 1 _ rfl; have hx2 := HP9.out.cell 2 _ rfl; have hx3 := HP9.out.cell 3 _ rfl; have hx4 := HP9.out.cell 4 _ rfl; have hx5 := HP9.out.cell 5 _ rfl; have hx6 := HP9.out.cell 6 _ rfl; have hx7 := HP9.out.cell 7 _ rfl; have hx8 := HP9.out.cell 8 _ rfl; have hx9 := HP9.out.cell 9 _ rfl; have hx10 := HP9.out.cell 10 _ rfl
          have hr0 := HX9.out.cell 0 _ rfl; have hr1 := HX9.out.cell 1 _ rfl; have hr2 := HX9.out.cell 2 _ rfl; have hr3 := HX9.out.cell 3 _ rfl; have hr4 := HX9.out.cell 4 _ rfl; have hr5 := HX9.out.cell 5 _ rfl; have hr6 := HX9.out.cell 6 _ rfl; have hr7 := HX9.out.cell 7 _ rfl; have hr8 := HX9.out.cell 8 _ rfl; have hr9 := HX9.out.cell 9 _ rfl; have hr10 := HX9.out.cell 10 _ rfl; have hrf := HX9.out.frozen
          have hGN : World.grownBy (((((((((((w8.setCell ⟨P, 0, none⟩ (.int .i64 y0)).setCell ⟨P, 1, none⟩ (.int .i64 y1)).setCell ⟨P, 2, none⟩ (.bool y2)).setCell ⟨P, 3, none⟩ (.bool y3)).setCell ⟨P, 4, none⟩ (.int .i64 y4)).setCell ⟨P, 5, none⟩ (.int .i64 y5)).setCell ⟨P, 6, none⟩ (.int .i64 y6)).setCell ⟨P, 7, none⟩ (.int .i64 y7)).setCell ⟨P, 8, none⟩ (.int .i64 y8)).setCell ⟨P, 9, none⟩ (.slice qa2 yn2 qc2)).setCell ⟨P, 10, none⟩ (.slice ua2 zn2 uc2)) ((((((((((((((((((((((w8.setCell ⟨P, 0, none⟩ (.int .i64 y0)).setCell ⟨P, 1, none⟩ (.int .i64 y1)).setCell ⟨P, 2, none⟩ (.bool y2)).setCell ⟨P, 3, none⟩ (.bool y3)).setCell ⟨P, 4, none⟩ (.int .i64 y4)).setCell ⟨P, 5, none⟩ (.int .i64 y5)).setCell ⟨P, 6, none⟩ (.int .i64 y6)).setCell ⟨P, 7, none⟩ (.int .i64 y7)).setCell ⟨P, 8, none⟩ (.int .i64 y8)).setCell ⟨P, 9, none⟩ (.slice qa2 yn2 qc2)).setCell ⟨P, 10, none⟩ (.slice ua2 zn2 uc2)).setCell ⟨X, 0, none⟩ (.int .i64 y0)).setCell ⟨X, 1, none⟩ (.int .i64 y1)).setCell ⟨X, 2, none⟩ (.bool y2)).setCell ⟨X, 3, none⟩ (.bool y3)).setCell ⟨X, 4, none⟩ (.int .i64 y4)).setCell ⟨X, 5, none⟩ (.int .i64 y5)).setCell ⟨X, 6, none⟩ (.int .i64 y6)).setCell ⟨X, 7, none⟩ (.int .i64 y7)).setCell ⟨X, 8, none⟩ (.int .i64 y8)).setCell ⟨X, 9, none⟩ (.slice qa2 yn2 qc2)).setCell ⟨X, 10, none⟩ (.slice ua2 zn2 uc2)) (some X) := set11 _ X _ _ _ _ _ _ _ _ _ _ _
          have HOz := hide ((HO9.out.gr2 hGN (own_ne HO9.out HX9.out (by decide))).low (show X ≤ W2.heap.size by omega))
          have HQz := hide ((HQ9.out.gr2 hGN (own_ne HQ9.out HX9.out (by decide))).low (show X ≤ W2.heap.size by omega))
          have HBz := hide ((HB2.out.trans (below_grown (show X ≤ g by omega) (show X ≤ W2.heap.size by omega) HD9.out.2.2.1)).trans (below_grown (Nat.le_refl X) (by have := HX9.out.lt; omega) hGN))
          clear hGN
          go_wp2_with fail
          subst hX
          exact bodyPost_ret (v := .agg #[.int .i64 y0, .int .i64 y1, .bool y2, .bool y3, .int .i64 y4, .int .i64 y5, .int .i64 y6, .int .i64 y7, .int .i64 y8, .slice qa2 yn2 qc2, .slice ua2 zn2 uc2]) (by simp [results, Tryz.results15, go_sem, hr0, hr1, hr2, hr3, hr4, hr5, hr6, hr7, hr8, hr9, hr10]) rfl ⟨_, rfl, ⟨_, _, _, _, _, _, _, _, _, _, _, ys2, z2, rfl, HYM.out, HZM.out, HQz.out, HOz.out, hapM⟩, HBz.out⟩
        · have b0 : (r == 0) = false := beq_eq_false_iff_ne.2 (by omega)
          have b1 : (r == 1) = false := beq_eq_false_iff_ne.2 (by omega)
          have b2 : (r == 2) = false := beq_eq_false_iff_ne.2 (by omega)
          have hx0 := HP7.out.cell 0 _ rfl; have hx1 := HP7.out.cell 1 _ rfl; have hx2 := HP7.out.cell 2 _ rfl; have hx3 := HP7.out.cell 3 _ rfl; have hx4 := HP7.out.cell 4 _ rfl; have hx5 := HP7.out.cell 5 _ rfl; have hx6 := HP7.out.cell 6 _ rfl; have hx7 := HP7.out.cell 7 _ rfl; have hx8 := HP7.out.cell 8 _ rfl; have hx9 := HP7.out.cell 9 _ rfl; have hx10 := HP7.out.cell 10 _ rfl
          have hr0 := HX7.out.cell 0 _ rfl; have hr1 := HX7.out.cell 1 _ rfl; have hr2 := HX7.out.cell 2 _ rfl; have hr3 := HX7.out.cell 3 _ rfl; have hr4 := HX7.out.cell 4 _ rfl; have hr5 := HX7.out.cell 5 _ rfl; have hr6 := HX7.out.cell 6 _ rfl; have hr7 := HX7.out.cell 7 _ rfl; have hr8 := HX7.out.cell 8 _ rfl; have hr9 := HX7.out.cell 9 _ rfl; have hr10 := HX7.out.cell 10 _ rfl; have hrf := HX7.out.frozen
          have hGN : World.grownBy w7 (((((((((((w7.setCell ⟨X, 0, none⟩ (.int .i64 x0)).setCell ⟨X, 1, none⟩ (.int .i64 x1)).setCell ⟨X, 2, none⟩ (.bool x2)).setCell ⟨X, 3, none⟩ (.bool x3)).setCell ⟨X, 4, none⟩ (.int .i64 x4)).setCell ⟨X, 5, none⟩ (.int .i64 x5)).setCell ⟨X, 6, none⟩ (.int .i64 1)).setCell ⟨X, 7, none⟩ (.int .i64 x7)).setCell ⟨X, 8, none⟩ (.int .i64 x8)).setCell ⟨X, 9, none⟩ (.slice qa yn qc)).setCell ⟨X, 10, none⟩ (.slice ua zn uc)) (some X) := set11 _ X _ _ _ _ _ _ _ _ _ _ _
          have HOz := hide ((HO7.out.gr2 hGN (own_ne HO7.out HX7.out (by decide))).low (show X ≤ W2.heap.size by omega))
          have HQz := hide ((HQ7.out.gr2 hGN (own_ne HQ7.out HX7.out (by decide))).low (show X ≤ W2.heap.size by omega))
          have HBz := hide ((HB2.out.trans (below_grown (show X ≤ g by omega) (show X ≤ W2.heap.size by omega) HD7.out.2.2.1)).trans (below_grown (Nat.le_refl X) (by have := HX7.out.lt; omega) hGN))
          clear hGN
          go_wp2_with fail
          subst hX
          exact bodyPost_ret (v := .agg #[.int .i64 x0, .int .i64 x1, .bool x2, .bool x3, .int .i64 x4, .int .i64 x5, .int .i64 1, .int .i64 x7, .int .i64 x8, .slice qa yn qc, .slice ua zn uc]) (by simp [results, Tryz.results15, go_sem, hr0, hr1, hr2, hr3, hr4, hr5, hr6, hr7, hr8, hr9, hr10]) rfl ⟨_, rfl, ⟨_, _, _, _, _, _, _, _, _, _, _, ys, z, rfl, by have := HYL.out; have := HYN.out; omega, by have := HZL.out; have := HZN.out; omega, HQz.out, HOz.out, HAP.out⟩, HBz.out⟩
      · clear hqb
        obtain ⟨ub, hub⟩ : ∃ ub, ua = some ⟨ub, 0, none⟩ := by
          rcases HO5.out.1.2 with ⟨hv, h0⟩ | ⟨g2, c2, cur, hv, _⟩
          · rw [HZN.out] at h0; omega
          · exact ⟨g2, by injection hv⟩
        subst hub
        go_upto_region 4 with fail
        refine wp_region_last2 (fun W W3 => W.grownBy W3 (some g)) (fun W => DSr W2 W g a cap zs ∧ HoldV W P #[.int .i64 x0, .int .i64 x1, .bool x2, .bool x3, .int .i64 x4, .int .i64 x5, .int .i64 1, .int .i64 x7, .int .i64 x8, .slice qa yn qc, .slice (some ⟨ub, 0, none⟩) zn uc] pkT ∧ HoldV W X #[.int .i64 0, .int .i64 0, .bool false, .bool false, .int .i64 0, .int .i64 0, .int .i64 0, .int .i64 0, .int .i64 0, .slice none 0 0, .slice none 0 0] pkT ∧ OwnB W W2.heap.size (.slice qa yn qc) ys ∧ OwnB W W2.heap.size (.slice (some ⟨ub, 0, none⟩) zn uc) z) (A74 g P ub zn uc) _ rfl (by kernel_rfl) (by kernel_rfl) (by kernel_rfl) (by kernel_rfl) A74_kept ⟨HD5.out.next ((Below.refl _ _).drew), HP5.out.next ((Below.refl _ _).drew), HX5.out.next ((Below.refl _ _).drew), HQ5.out.nx ((Below.refl _ _).drew), HO5.out.nx ((Below.refl _ _).drew)⟩ ?_ ?_
        clear HD5 HP5 HX5 HQ5 HO5
        refine EachBut.one _ _ _ ?_ ?_
        · intro v W hB hp KK hKK
          rw [if_pos (by rfl)]
          have hp1 : AllOf (A74 g P ub zn uc) v W [] := hp
          clear hp
          simp only [putAll, Act.put, List.setIfInBounds_toArray, List.set_cons_zero, List.set_cons_succ, Nat.reduceAdd] at hKK ⊢
          go_simp
          refine hKK _ _ (grown_refl _ _) hB ?_
          rfl
        refine EachBut.one _ _ _ ?_ ?_
        · intro v W hB hp KK hKK
          rw [if_pos (by rfl)]
          have hp1 : AllOf (A74 g P ub zn uc) v W [0] := hp
          clear hp
          simp only [putAll, Act.put, List.setIfInBounds_toArray, List.set_cons_zero, List.set_cons_succ, Nat.reduceAdd] at hKK ⊢
          have c9 := hB.2.1.cell 10 _ rfl
          have e0 : v 0 = .pointer (some ⟨P, 10, none⟩) := hp1.1
          simp only [e0] at hKK ⊢
          clear e0 hp1
          have HB := hide hB
          clear hB
          go_simp
          refine hKK _ _ (grown_refl _ _) HB.out ?_
          rfl
        refine EachBut.one _ _ _ ?_ ?_
        · intro v W hB hp KK hKK
          rw [if_pos (by rfl)]
          have hp1 : AllOf (A74 g P ub zn uc) v W [] := hp
          clear hp
          simp only [putAll, Act.put, List.setIfInBounds_toArray, List.set_cons_zero, List.set_cons_succ, Nat.reduceAdd] at hKK ⊢
          have hlt := hB.1.2.1.lt
          have HB := hide hB
          clear hB
          go_simp
          refine hKK _ _ (World.grownBy_alloc W _ _) ⟨HB.out.1.alloc _, HB.out.2.1.next ((Below.refl _ _).alloc (Nat.le_refl _) _), HB.out.2.2.1.next ((Below.refl _ _).alloc (Nat.le_refl _) _), HB.out.2.2.2.1.nx ((Below.refl _ _).alloc (Nat.le_refl _) _), HB.out.2.2.2.2.nx ((Below.refl _ _).alloc (Nat.le_refl _) _)⟩ ?_
          exact ⟨W.heap.size, rfl, heap_alloc_new _ _, by omega⟩
        refine EachBut.one _ _ _ ?_ ?_
        · intro v W hB hp KK hKK
          rw [if_pos (by rfl)]
          have hp1 : AllOf (A74 g P ub zn uc) v W [] := hp
          clear hp
          simp only [putAll, Act.put, List.setIfInBounds_toArray, List.set_cons_zero, List.set_cons_succ, Nat.reduceAdd] at hKK ⊢
          have HB := hide hB
          clear hB
          go_simp
          refine (l01Next_walk g 4 zs _ a cap HB.out.1.1 HB.out.1.2.1 (by omega) (by omega) hl).mono ?_
          rintro e w3 ⟨s, rfl, s0, s1, hg1, hs1⟩
          go_simp
          refine hKK _ _ hg1 ⟨HB.out.1.step hg1 hs1, HB.out.2.1.gr hg1 (by omega), HB.out.2.2.1.gr hg1 (by omega), HB.out.2.2.2.1.gr hg1 hgB, HB.out.2.2.2.2.gr hg1 hgB⟩ ?_
          exact ⟨s, rfl, s0, s1⟩
        refine EachBut.one _ _ _ ?_ ?_
        · intro v W hB hp KK hKK
          rw [if_pos (by rfl)]
          have hp1 : AllOf (A74 g P ub zn uc) v W [2, 3] := hp
          clear hp
          simp only [putAll, Act.put, List.setIfInBounds_toArray, List.set_cons_zero, List.set_cons_succ, Nat.reduceAdd] at hKK ⊢
          obtain ⟨⟨b, e2, hh, hne⟩, ⟨r, e3, l0, l1⟩, _⟩ := hp1
          obtain ⟨k, rfl⟩ := Int.eq_ofNat_of_zero_le l0
          have hk : k < 4 := by omega
          clear l0 l1
          rcases (show k = 0 ∨ k = 1 ∨ k = 2 ∨ k = 3 by omega) with rfl | rfl | rfl | rfl
          all_goals
            simp only [e2, e3] at hKK ⊢
            clear e2 e3
            go_simp
            refine hKK _ _ (grown_refl _ _) hB ?_
            exact ⟨b, _, rfl, hh, hne, hk⟩
        refine EachBut.one _ _ _ ?_ ?_
        · intro v W hB hp KK hKK
          rw [if_pos (by rfl)]
          have hp1 : AllOf (A74 g P ub zn uc) v W [4] := hp
          clear hp
          simp only [putAll, Act.put, List.setIfInBounds_toArray, List.set_cons_zero, List.set_cons_succ, Nat.reduceAdd] at hKK ⊢
          obtain ⟨⟨b, k, e4, hh, hne, hk⟩, _⟩ := hp1
          have c0 := hh.cell 0 _ rfl
          have c1 := hh.cell 1 _ rfl
          have c2 := hh.cell 2 _ rfl
          have c3 := hh.cell 3 _ rfl
          rcases (show k = 0 ∨ k = 1 ∨ k = 2 ∨ k = 3 by omega) with rfl | rfl | rfl | rfl
          all_goals
            simp only [e4] at hKK ⊢
            clear e4
            go_simp
            refine hKK _ _ (grown_refl _ _) hB ?_
            exact ⟨_, rfl, by omega, by omega⟩
        refine EachBut.one _ _ _ ?_ ?_
        · intro v W hB hp KK hKK
          rw [if_pos (by rfl)]
          have hp1 : AllOf (A74 g P ub zn uc) v W [5] := hp
          clear hp
          simp only [putAll, Act.put, List.setIfInBounds_toArray, List.set_cons_zero, List.set_cons_succ, Nat.reduceAdd] at hKK ⊢
          obtain ⟨⟨r, e5, l0, l1⟩, _⟩ := hp1
          simp only [e5] at hKK ⊢
          clear e5
          have hw : IntKind.u8.wrap r = r := by rw [IntKind.wrap_u8]; omega
          go_simp
          refine hKK _ _ (grown_refl _ _) hB ?_
          exact ⟨r, rfl, l0, l1⟩
        refine EachBut.one _ _ _ ?_ ?_
        · intro v W hB hp KK hKK
          rw [if_pos (by rfl)]
          have hp1 : AllOf (A74 g P ub zn uc) v W [1, 0, 1, 2, 3, 4, 5, 6] := hp
          clear hp
          simp only [putAll, Act.put, List.setIfInBounds_toArray, List.set_cons_zero, List.set_cons_succ, Nat.reduceAdd] at hKK ⊢
          have e1 : v 1 = .slice (some ⟨ub, 0, none⟩) zn uc := hp1.1
          clear hp1
          simp only [e1] at hKK ⊢
          clear e1
          go_simp
          refine hKK _ _ (grown_refl _ _) hB ?_
          rfl
        · exact trivial
        intro v W hB hA KK hKK
        rw [if_pos (by rfl)]
        simp only [putAll, Act.put, List.setIfInBounds_toArray, List.set_cons_zero, List.set_cons_succ, Nat.reduceAdd]
        have p6 : A74 g P ub zn uc 6 (v 6) W := hA 6 (by decide)
        have p7 : A74 g P ub zn uc 7 (v 7) W := hA 7 (by decide)
        clear hA
        obtain ⟨c, e6, c0, c1⟩ := p6
        have e7 : v 7 = .pointer (some ⟨ub, 0, none⟩) := p7
        simp only [e6, e7]
        clear e6 e7 p7
        generalize v 0 = y0; generalize v 1 = y1; generalize v 2 = y2; generalize v 3 = y3; generalize v 4 = y4; generalize v 5 = y5
        have hst := hB.2.2.2.2.store HZN.out 0 c c0 c1
        have hub1 : ∀ b T vs, HoldV W b vs T → T ≠ 5 → b ≠ ub := fun b T vs h1 h2 e => own_ne hB.2.2.2.2 h1 h2 ub rfl e.symm
        have hubB : W2.heap.size ≤ ub := (hB.2.2.2.2.1.lt ub rfl).1
        have HD6 := hide (hB.1.put HA2.out HS2.out hst.2 hubB); have HP6 := hide (hB.2.1.gr hst.2 (hub1 _ _ _ hB.2.1 (by decide))); have HX6 := hide (hB.2.2.1.gr hst.2 (hub1 _ _ _ hB.2.2.1 (by decide))); have HQ6 := hide (hB.2.2.2.1.gr2 hst.2 (fun k hk e => HAP.out k hk (by rw [e]; rfl))); have HO6 := hide hst.1
        have hcc := own_cellx hB.2.2.2.2 HZN.out 0 hz0
        obtain ⟨cx, hcc⟩ := hcc
        have hcf : W.frozen? ⟨ub, 0, none⟩ = false := own_frozen hB.2.2.2.2 0
        clear hB hst hub1 hubB
        go_simp
        refine hKK _ _ ?_
        clear hKK
        generalize W.setCell ⟨ub, 0, none⟩ (.int .u8 c) = w6 at *
        clear hcc hcf
        go_wp2_with fail
        refine (l01Next_walk g 8 zs _ a cap HD6.out.1 HD6.out.2.1 (by omega) (by omega) hl).mono ?_
        rintro e w7 ⟨r, rfl, r0, r1, hg1, hs1⟩
        have HD7 := hide (HD6.out.step hg1 hs1); have HP7 := hide (HP6.out.gr hg1 (show P ≠ g by omega)); have HX7 := hide (HX6.out.gr hg1 (show X ≠ g by omega)); have HQ7 := hide (HQ6.out.gr hg1 hgB); have HO7 := hide (HO6.out.gr hg1 hgB)
        clear hg1 hs1 HD6 HP6 HX6 HQ6 HO6
        rcases (show r = 0 ∨ r = 1 ∨ r = 2 ∨ 3 ≤ r by omega) with rfl | rfl | rfl | hr
        · -- 0
          go_wp2_with fail
          refine (l02Addr_walk g zs _ a cap HD7.out.1 HD7.out.2.1 hl).mono ?_
          rintro e w8 ⟨t, rfl, _, _, hg1, hs1⟩
          have HD8 := hide (HD7.out.step hg1 hs1); have HP8 := hide (HP7.out.gr hg1 (show P ≠ g by omega)); have HX8 := hide (HX7.out.gr hg1 (show X ≠ g by omega)); have HQ8 := hide (HQ7.out.gr hg1 hgB); have HO8 := hide (HO7.out.gr hg1 hgB)
          clear hg1 hs1 HD7 HP7 HX7 HQ7 HO7
          have hG : World.grownBy w8 (w8.setCell ⟨P, 7, none⟩ (.int .i64 t)) (some P) := gset (grown_refl _ _) _ _
          have HP9 : Hid (HoldV (w8.setCell ⟨P, 7, none⟩ (.int .i64 t)) P #[.int .i64 x0, .int .i64 x1, .bool x2, .bool x3, .int .i64 x4, .int .i64 x5, .int .i64 1, .int .i64 t, .int .i64 x8, .slice qa yn qc, .slice (some ⟨ub, 0, none⟩) zn uc] pkT) := hide (HP8.out.putc 7 _)
          have HD9 := hide (HD8.out.put HA2.out HS2.out hG hBP)
          have HX9 := hide (HX8.out.gr hG (by omega))
          have HQ9 := hide (HQ8.out.gr2 hG (fun k hk => by have := hqP k hk; omega))
          have HO9 := hide (HO8.out.gr2 hG (fun k hk => by have := hOP k hk; omega))
          have cc := HP8.out.cell 7 _ rfl; have cf := HP8.out.frozen 7
          clear hG
          have hx0 := HP9.out.cell 0 _ rfl; have hx1 := HP9.out.cell 1 _ rfl; have hx2 := HP9.out.cell 2 _ rfl; have hx3 := HP9.out.cell 3 _ rfl; have hx4 := HP9.out.cell 4 _ rfl; have hx5 := HP9.out.cell 5 _ rfl; have hx6 := HP9.out.cell 6 _ rfl; have hx7 := HP9.out.cell 7 _ rfl; have hx8 := HP9.out.cell 8 _ rfl; have hx9 := HP9.out.cell 9 _ rfl; have hx10 := HP9.out.cell 10 _ rfl
          have hr0 := HX9.out.cell 0 _ rfl; have hr1 := HX9.out.cell 1 _ rfl; have hr2 := HX9.out.cell 2 _ rfl; have hr3 := HX9.out.cell 3 _ rfl; have hr4 := HX9.out.cell 4 _ rfl; have hr5 := HX9.out.cell 5 _ rfl; have hr6 := HX9.out.cell 6 _ rfl; have hr7 := HX9.out.cell 7 _ rfl; have hr8 := HX9.out.cell 8 _ rfl; have hr9 := HX9.out.cell 9 _ rfl; have hr10 := HX9.out.cell 10 _ rfl; have hrf := HX9.out.frozen
          have hGN : World.grownBy (w8.setCell ⟨P, 7, none⟩ (.int .i64 t)) ((((((((((((w8.setCell ⟨P, 7, none⟩ (.int .i64 t)).setCell ⟨X, 0, none⟩ (.int .i64 x0)).setCell ⟨X, 1, none⟩ (.int .i64 x1)).setCell ⟨X, 2, none⟩ (.bool x2)).setCell ⟨X, 3, none⟩ (.bool x3)).setCell ⟨X, 4, none⟩ (.int .i64 x4)).setCell ⟨X, 5, none⟩ (.int .i64 x5)).setCell ⟨X, 6, none⟩ (.int .i64 1)).setCell ⟨X, 7, none⟩ (.int .i64 t)).setCell ⟨X, 8, none⟩ (.int .i64 x8)).setCell ⟨X, 9, none⟩ (.slice qa yn qc)).setCell ⟨X, 10, none⟩ (.slice (some ⟨ub, 0, none⟩) zn uc)) (some X) := set11 _ X _ _ _ _ _ _ _ _ _ _ _
          have HOz := hide ((HO9.out.gr2 hGN (own_ne HO9.out HX9.out (by decide))).low (show X ≤ W2.heap.size by omega))
          have HQz := hide ((HQ9.out.gr2 hGN (own_ne HQ9.out HX9.out (by decide))).low (show X ≤ W2.heap.size by omega))
          have HBz := hide ((HB2.out.trans (below_grown (show X ≤ g by omega) (show X ≤ W2.heap.size by omega) HD9.out.2.2.1)).trans (below_grown (Nat.le_refl X) (by have := HX9.out.lt; omega) hGN))
          clear hGN
          go_wp2_with fail
          subst hX
          exact bodyPost_ret (v := .agg #[.int .i64 x0, .int .i64 x1, .bool x2, .bool x3, .int .i64 x4, .int .i64 x5, .int .i64 1, .int .i64 t, .int .i64 x8, .slice qa yn qc, .slice (some ⟨ub, 0, none⟩) zn uc]) (by simp [results, Tryz.results15, go_sem, hr0, hr1, hr2, hr3, hr4, hr5, hr6, hr7, hr8, hr9, hr10]) rfl ⟨_, rfl, ⟨_, _, _, _, _, _, _, _, _, _, _, ys, z.set 0 c, rfl, by have := HYL.out; have := HYN.out; omega, by have := HZL.out; have := HZN.out; rw [List.length_set]; omega, HQz.out, HOz.out, HAP.out⟩, HBz.out⟩
        · -- 1
          go_wp2_with fail
          refine (l02Addr_walk g zs _ a cap HD7.out.1 HD7.out.2.1 hl).mono ?_
          rintro e w8 ⟨t, rfl, _, _, hg1, hs1⟩
          have HD8 := hide (HD7.out.step hg1 hs1); have HP8 := hide (HP7.out.gr hg1 (show P ≠ g by omega)); have HX8 := hide (HX7.out.gr hg1 (show X ≠ g by omega)); have HQ8 := hide (HQ7.out.gr hg1 hgB); have HO8 := hide (HO7.out.gr hg1 hgB)
          clear hg1 hs1 HD7 HP7 HX7 HQ7 HO7
          have hG : World.grownBy w8 (w8.setCell ⟨P, 8, none⟩ (.int .i64 t)) (some P) := gset (grown_refl _ _) _ _
          have HP9 : Hid (HoldV (w8.setCell ⟨P, 8, none⟩ (.int .i64 t)) P #[.int .i64 x0, .int .i64 x1, .bool x2, .bool x3, .int .i64 x4, .int .i64 x5, .int .i64 1, .int .i64 x7, .int .i64 t, .slice qa yn qc, .slice (some ⟨ub, 0, none⟩) zn uc] pkT) := hide (HP8.out.putc 8 _)
          have HD9 := hide (HD8.out.put HA2.out HS2.out hG hBP)
          have HX9 := hide (HX8.out.gr hG (by omega))
          have HQ9 := hide (HQ8.out.gr2 hG (fun k hk => by have := hqP k hk; omega))
          have HO9 := hide (HO8.out.gr2 hG (fun k hk => by have := hOP k hk; omega))
          have cc := HP8.out.cell 8 _ rfl; have cf := HP8.out.frozen 8
          clear hG
          have hx0 := HP9.out.cell 0 _ rfl; have hx1 := HP9.out.cell 1 _ rfl; have hx2 := HP9.out.cell 2 _ rfl; have hx3 := HP9.out.cell 3 _ rfl; have hx4 := HP9.out.cell 4 _ rfl; have hx5 := HP9.out.cell 5 _ rfl; have hx6 := HP9.out.cell 6 _ rfl; have hx7 := HP9.out.cell 7 _ rfl; have hx8 := HP9.out.cell 8 _ rfl; have hx9 := HP9.out.cell 9 _ rfl; have hx10 := HP9.out.cell 10 _ rfl
          have hr0 := HX9.out.cell 0 _ rfl; have hr1 := HX9.out.cell 1 _ rfl; have hr2 := HX9.out.cell 2 _ rfl; have hr3 := HX9.out.cell 3 _ rfl; have hr4 := HX9.out.cell 4 _ rfl; have hr5 := HX9.out.cell 5 _ rfl; have hr6 := HX9.out.cell 6 _ rfl; have hr7 := HX9.out.cell 7 _ rfl; have hr8 := HX9.out.cell 8 _ rfl; have hr9 := HX9.out.cell 9 _ rfl; have hr10 := HX9.out.cell 10 _ rfl; have hrf := HX9.out.frozen
          have hGN : World.grownBy (w8.setCell ⟨P, 8, none⟩ (.int .i64 t)) ((((((((((((w8.setCell ⟨P, 8, none⟩ (.int .i64 t)).setCell ⟨X, 0, none⟩ (.int .i64 x0)).setCell ⟨X, 1, none⟩ (.int .i64 x1)).setCell ⟨X, 2, none⟩ (.bool x2)).setCell ⟨X, 3, none⟩ (.bool x3)).setCell ⟨X, 4, none⟩ (.int .i64 x4)).setCell ⟨X, 5, none⟩ (.int .i64 x5)).setCell ⟨X, 6, none⟩ (.int .i64 1)).setCell ⟨X, 7, none⟩ (.int .i64 x7)).setCell ⟨X, 8, none⟩ (.int .i64 t)).setCell ⟨X, 9, none⟩ (.slice qa yn qc)).setCell ⟨X, 10, none⟩ (.slice (some ⟨ub, 0, none⟩) zn uc)) (some X) := set11 _ X _ _ _ _ _ _ _ _ _ _ _
          have HOz := hide ((HO9.out.gr2 hGN (own_ne HO9.out HX9.out (by decide))).low (show X ≤ W2.heap.size by omega))
          have HQz := hide ((HQ9.out.gr2 hGN (own_ne HQ9.out HX9.out (by decide))).low (show X ≤ W2.heap.size by omega))
          have HBz := hide ((HB2.out.trans (below_grown (show X ≤ g by omega) (show X ≤ W2.heap.size by omega) HD9.out.2.2.1)).trans (below_grown (Nat.le_refl X) (by have := HX9.out.lt; omega) hGN))
          clear hGN
          go_wp2_with fail
          subst hX
          exact bodyPost_ret (v := .agg #[.int .i64 x0, .int .i64 x1, .bool x2, .bool x3, .int .i64 x4, .int .i64 x5, .int .i64 1, .int .i64 x7, .int .i64 t, .slice qa yn qc, .slice (some ⟨ub, 0, none⟩) zn uc]) (by simp [results, Tryz.results15, go_sem, hr0, hr1, hr2, hr3, hr4, hr5, hr6, hr7, hr8, hr9, hr10]) rfl ⟨_, rfl, ⟨_, _, _, _, _, _, _, _, _, _, _, ys, z.set 0 c, rfl, by have := HYL.out; have := HYN.out; omega, by have := HZL.out; have := HZN.out; rw [List.length_set]; omega, HQz.out, HOz.out, HAP.out⟩, HBz.out⟩
        · -- 2
          have hp0 := HP7.out.cell 0 _ rfl; have hp1 := HP7.out.cell 1 _ rfl; have hp2 := HP7.out.cell 2 _ rfl; have hp3 := HP7.out.cell 3 _ rfl; have hp4 := HP7.out.cell 4 _ rfl; have hp5 := HP7.out.cell 5 _ rfl; have hp6 := HP7.out.cell 6 _ rfl; have hp7 := HP7.out.cell 7 _ rfl; have hp8 := HP7.out.cell 8 _ rfl; have hp9 := HP7.out.cell 9 _ rfl; have hp10 := HP7.out.cell 10 _ rfl
          have hszw : W2.heap.size ≤ w7.heap.size := HD7.out.2.2.1.size
          have CB := hide (l05Bend_walk g zs w7 a cap HD7.out.1 HD7.out.2.1 hl W2.heap.size hgB hszw x0 x1 x2 x3 x4 x5 1 x7 x8 qa yn qc (some ⟨ub, 0, none⟩) zn uc ys (z.set 0 c) HYN.out (by rw [List.length_set]; exact HZN.out) (by have := HYL.out; omega) (by have := HZL.out; omega) HQ7.out HO7.out HAP.out)
          go_wp2_with fail
          refine CB.out.mono ?_
          clear CB hp0 hp1 hp2 hp3 hp4 hp5 hp6 hp7 hp8 hp9 hp10
          rintro e w8 ⟨v, rfl, ⟨y0, y1, y2, y3, y4, y5, y6, y7, y8, u0, u1, ys2, z2, rfl, hy2, hz2, hq2, hO2, hapM⟩, hg1, hs1⟩
          have HD8 := hide (HD7.out.step hg1 hs1); have HP8 := hide (HP7.out.gr hg1 (show P ≠ g by omega)); have HX8 := hide (HX7.out.gr hg1 (show X ≠ g by omega))
          have HQ8 := hide hq2; have HO8 := hide hO2; have HYM := hide hy2; have HZM := hide hz2
          clear hg1 hs1 HD7 HP7 HX7 HQ7 HO7 hq2 hO2 hy2 hz2 hszw
          obtain ⟨qa2, qc2, hu0, _⟩ := own_slice HQ8.out
          obtain ⟨ua2, uc2, hu1, _⟩ := own_slice HO8.out
          have HYM2 : Hid (∃ l : List Int, l = ys2) := hide ⟨_, rfl⟩
          generalize hyn2 : ys2.length = yn2 at *
          generalize hzn2 : z2.length = zn2 at *
          subst hu0 hu1
          have hG : w8.grownBy (((((((((((w8.setCell ⟨P, 0, none⟩ (.int .i64 y0)).setCell ⟨P, 1, none⟩ (.int .i64 y1)).setCell ⟨P, 2, none⟩ (.bool y2)).setCell ⟨P, 3, none⟩ (.bool y3)).setCell ⟨P, 4, none⟩ (.int .i64 y4)).setCell ⟨P, 5, none⟩ (.int .i64 y5)).setCell ⟨P, 6, none⟩ (.int .i64 y6)).setCell ⟨P, 7, none⟩ (.int .i64 y7)).setCell ⟨P, 8, none⟩ (.int .i64 y8)).setCell ⟨P, 9, none⟩ (.slice qa2 yn2 qc2)).setCell ⟨P, 10, none⟩ (.slice ua2 zn2 uc2)) (some P) := set11 _ P _ _ _ _ _ _ _ _ _ _ _
          have HP9 : Hid (HoldV (((((((((((w8.setCell ⟨P, 0, none⟩ (.int .i64 y0)).setCell ⟨P, 1, none⟩ (.int .i64 y1)).setCell ⟨P, 2, none⟩ (.bool y2)).setCell ⟨P, 3, none⟩ (.bool y3)).setCell ⟨P, 4, none⟩ (.int .i64 y4)).setCell ⟨P, 5, none⟩ (.int .i64 y5)).setCell ⟨P, 6, none⟩ (.int .i64 y6)).setCell ⟨P, 7, none⟩ (.int .i64 y7)).setCell ⟨P, 8, none⟩ (.int .i64 y8)).setCell ⟨P, 9, none⟩ (.slice qa2 yn2 qc2)).setCell ⟨P, 10, none⟩ (.slice ua2 zn2 uc2)) P #[.int .i64 y0, .int .i64 y1, .bool y2, .bool y3, .int .i64 y4, .int .i64 y5, .int .i64 y6, .int .i64 y7, .int .i64 y8, .slice qa2 yn2 qc2, .slice ua2 zn2 uc2] pkT) := hide (HP8.out.set11 _ _ _ _ _ _ _ _ _ _ _)
          have HD9 := hide (HD8.out.put HA2.out HS2.out hG hBP); have HX9 := hide (HX8.out.gr hG (by omega))
          have HQ9 := hide (HQ8.out.gr2 hG (own_ne HQ8.out HP8.out (by decide))); have HO9 := hide (HO8.out.gr2 hG (own_ne HO8.out HP8.out (by decide)))
          have hc0 := HP8.out.cell 0 _ rfl; have hc1 := HP8.out.cell 1 _ rfl; have hc2 := HP8.out.cell 2 _ rfl; have hc3 := HP8.out.cell 3 _ rfl; have hc4 := HP8.out.cell 4 _ rfl; have hc5 := HP8.out.cell 5 _ rfl; have hc6 := HP8.out.cell 6 _ rfl; have hc7 := HP8.out.cell 7 _ rfl; have hc8 := HP8.out.cell 8 _ rfl; have hc9 := HP8.out.cell 9 _ rfl; have hc10 := HP8.out.cell 10 _ rfl; have hcf := HP8.out.frozen
          clear hG
          replace HYM : Hid (ys2.length ≤ 44) := hide (by rw [hyn2]; exact HYM.out)
          replace HZM : Hid (z2.length ≤ 65516) := hide (by rw [hzn2]; exact HZM.out)
          clear hyn2 hzn2
          have hx0 := HP9.out.cell 0 _ rfl; have hx1 := HP9.out.cell 1 _ rfl; have hx2 := HP9.out.cell 2 _ rfl; have hx3 := HP9.out.cell 3 _ rfl; have hx4 := HP9.out.cell 4 _ rfl; have hx5 := HP9.out.cell 5 _ rfl; have hx6 := HP9.out.cell 6 _ rfl; have hx7 := HP9.out.cell 7 _ rfl; have hx8 := HP9.out.cell 8 _ rfl; have hx9 := HP9.out.cell 9 _ rfl; have hx10 := HP9.out.cell 10 _ rfl
          have hr0 := HX9.out.cell 0 _ rfl; have hr1 := HX9.out.cell 1 _ rfl; have hr2 := HX9.out.cell 2 _ rfl; have hr3 := HX9.out.cell 3 _ rfl; have hr4 := HX9.out.cell 4 _ rfl; have hr5 := HX9.out.cell 5 _ rfl; have hr6 := HX9.out.cell 6 _ rfl; have hr7 := HX9.out.cell 7 _ rfl; have hr8 := HX9.out.cell 8 _ rfl; have hr9 := HX9.out.cell 9 _ rfl; have hr10 := HX9.out.cell 10 _ rfl; have hrf := HX9.out.frozen
          have hGN : World.grownBy (((((((((((w8.setCell ⟨P, 0, none⟩ (.int .i64 y0)).setCell ⟨P, 1, none⟩ (.int .i64 y1)).setCell ⟨P, 2, none⟩ (.bool y2)).setCell ⟨P, 3, none⟩ (.bool y3)).setCell ⟨P, 4, none⟩ (.int .i64 y4)).setCell ⟨P, 5, none⟩ (.int .i64 y5)).setCell ⟨P, 6, none⟩ (.int .i64 y6)).setCell ⟨P, 7, none⟩ (.int .i64 y7)).setCell ⟨P, 8, none⟩ (.int .i64 y8)).setCell ⟨P, 9, none⟩ (.slice qa2 yn2 qc2)).setCell ⟨P, 10, none⟩ (.slice ua2 zn2 uc2)) ((((((((((((((((((((((w8.setCell ⟨P, 0, none⟩ (.int .i64 y0)).setCell ⟨P, 1, none⟩ (.int .i64 y1)).setCell ⟨P, 2, none⟩ (.bool y2)).setCell ⟨P, 3, none⟩ (.bool y3)).setCell ⟨P, 4, none⟩ (.int .i64 y4)).setCell ⟨P, 5, none⟩ (.int .i64 y5)).setCell ⟨P, 6, none⟩ (.int .i64 y6)).setCell ⟨P, 7, none⟩ (.int .i64 y7)).setCell ⟨P, 8, none⟩ (.int .i64 y8)).setCell ⟨P, 9, none⟩ (.slice qa2 yn2 qc2)).setCell ⟨P, 10, none⟩ (.slice ua2 zn2 uc2)).setCell ⟨X, 0, none⟩ (.int .i64 y0)).setCell ⟨X, 1, none⟩ (.int .i64 y1)).setCell ⟨X, 2, none⟩ (.bool y2)).setCell ⟨X, 3, none⟩ (.bool y3)).setCell ⟨X, 4, none⟩ (.int .i64 y4)).setCell ⟨X, 5, none⟩ (.int .i64 y5)).setCell ⟨X, 6, none⟩ (.int .i64 y6)).setCell ⟨X, 7, none⟩ (.int .i64 y7)).setCell ⟨X, 8, none⟩ (.int .i64 y8)).setCell ⟨X, 9, none⟩ (.slice qa2 yn2 qc2)).setCell ⟨X, 10, none⟩ (.slice ua2 zn2 uc2)) (some X) := set11 _ X _ _ _ _ _ _ _ _ _ _ _
          have HOz := hide ((HO9.out.gr2 hGN (own_ne HO9.out HX9.out (by decide))).low (show X ≤ W2.heap.size by omega))
          have HQz := hide ((HQ9.out.gr2 hGN (own_ne HQ9.out HX9.out (by decide))).low (show X ≤ W2.heap.size by omega))
          have HBz := hide ((HB2.out.trans (below_grown (show X ≤ g by omega) (show X ≤ W2.heap.size by omega) HD9.out.2.2.1)).trans (below_grown (Nat.le_refl X) (by have := HX9.out.lt; omega) hGN))
          clear hGN
          go_wp2_with fail
          subst hX
          exact bodyPost_ret (v := .agg #[.int .i64 y0, .int .i64 y1, .bool y2, .bool y3, .int .i64 y4, .int .i64 y5, .int .i64 y6, .int .i64 y7, .int .i64 y8, .slice qa2 yn2 qc2, .slice ua2 zn2 uc2]) (by simp [results, Tryz.results15, go_sem, hr0, hr1, hr2, hr3, hr4, hr5, hr6, hr7, hr8, hr9, hr10]) rfl ⟨_, rfl, ⟨_, _, _, _, _, _, _, _, _, _, _, ys2, z2, rfl, HYM.out, HZM.out, HQz.out, HOz.out, hapM⟩, HBz.out⟩
        · have b0 : (r == 0) = false := beq_eq_false_iff_ne.2 (by omega)
          have b1 : (r == 1) = false := beq_eq_false_iff_ne.2 (by omega)
          have b2 : (r == 2) = false := beq_eq_false_iff_ne.2 (by omega)
          have hx0 := HP7.out.cell 0 _ rfl; have hx1 := HP7.out.cell 1 _ rfl; have hx2 := HP7.out.cell 2 _ rfl; have hx3 := HP7.out.cell 3 _ rfl; have hx4 := HP7.out.cell 4 _ rfl; have hx5 := HP7.out.cell 5 _ rfl; have hx6 := HP7.out.cell 6 _ rfl; have hx7 := HP7.out.cell 7 _ rfl; have hx8 := HP7.out.cell 8 _ rfl; have hx9 := HP7.out.cell 9 _ rfl; have hx10 := HP7.out.cell 10 _ rfl
          have hr0 := HX7.out.cell 0 _ rfl; have hr1 := HX7.out.cell 1 _ rfl; have hr2 := HX7.out.cell 2 _ rfl; have hr3 := HX7.out.cell 3 _ rfl; have hr4 := HX7.out.cell 4 _ rfl; have hr5 := HX7.out.cell 5 _ rfl; have hr6 := HX7.out.cell 6 _ rfl; have hr7 := HX7.out.cell 7 _ rfl; have hr8 := HX7.out.cell 8 _ rfl; have hr9 := HX7.out.cell 9 _ rfl; have hr10 := HX7.out.cell 10 _ rfl; have hrf := HX7.out.frozen
          have hGN : World.grownBy w7 (((((((((((w7.setCell ⟨X, 0, none⟩ (.int .i64 x0)).setCell ⟨X, 1, none⟩ (.int .i64 x1)).setCell ⟨X, 2, none⟩ (.bool x2)).setCell ⟨X, 3, none⟩ (.bool x3)).setCell ⟨X, 4, none⟩ (.int .i64 x4)).setCell ⟨X, 5, none⟩ (.int .i64 x5)).setCell ⟨X, 6, none⟩ (.int .i64 1)).setCell ⟨X, 7, none⟩ (.int .i64 x7)).setCell ⟨X, 8, none⟩ (.int .i64 x8)).setCell ⟨X, 9, none⟩ (.slice qa yn qc)).setCell ⟨X, 10, none⟩ (.slice (some ⟨ub, 0, none⟩) zn uc)) (some X) := set11 _ X _ _ _ _ _ _ _ _ _ _ _
          have HOz := hide ((HO7.out.gr2 hGN (own_ne HO7.out HX7.out (by decide))).low (show X ≤ W2.heap.size by omega))
          have HQz := hide ((HQ7.out.gr2 hGN (own_ne HQ7.out HX7.out (by decide))).low (show X ≤ W2.heap.size by omega))
          have HBz := hide ((HB2.out.trans (below_grown (show X ≤ g by omega) (show X ≤ W2.heap.size by omega) HD7.out.2.2.1)).trans (below_grown (Nat.le_refl X) (by have := HX7.out.lt; omega) hGN))
          clear hGN
          go_wp2_with fail
          subst hX
          exact bodyPost_ret (v := .agg #[.int .i64 x0, .int .i64 x1, .bool x2, .bool x3, .int .i64 x4, .int .i64 x5, .int .i64 1, .int .i64 x7, .int .i64 x8, .slice qa yn qc, .slice (some ⟨ub, 0, none⟩) zn uc]) (by simp [results, Tryz.results15, go_sem, hr0, hr1, hr2, hr3, hr4, hr5, hr6, hr7, hr8, hr9, hr10]) rfl ⟨_, rfl, ⟨_, _, _, _, _, _, _, _, _, _, _, ys, z.set 0 c, rfl, by have := HYL.out; have := HYN.out; omega, by have := HZL.out; have := HZN.out; rw [List.length_set]; omega, HQz.out, HOz.out, HAP.out⟩, HBz.out⟩
    · have hz1 : ¬ ((0 : Int) < (zn : Int)) := by omega
      go_wp2_with fail
      clear hp6 hp10
      refine (l01Next_walk g 8 zs _ a cap HD4.out.1 HD4.out.2.1 (by omega) (by omega) hl).mono ?_
      rintro e w7 ⟨r, rfl, r0, r1, hg1, hs1⟩
      have HD7 := hide (HD4.out.step hg1 hs1); have HP7 := hide (HP4.out.gr hg1 (show P ≠ g by omega)); have HX7 := hide (HX4.out.gr hg1 (show X ≠ g by omega)); have HQ7 := hide (HQ4.out.gr hg1 hgB); have HO7 := hide (HO4.out.gr hg1 hgB)
      clear hg1 hs1 HD4 HP4 HX4 HQ4 HO4
      rcases (show r = 0 ∨ r = 1 ∨ r = 2 ∨ 3 ≤ r by omega) with rfl | rfl | rfl | hr
      · -- 0
        go_wp2_with fail
        refine (l02Addr_walk g zs _ a cap HD7.out.1 HD7.out.2.1 hl).mono ?_
        rintro e w8 ⟨t, rfl, _, _, hg1, hs1⟩
        have HD8 := hide (HD7.out.step hg1 hs1); have HP8 := hide (HP7.out.gr hg1 (show P ≠ g by omega)); have HX8 := hide (HX7.out.gr hg1 (show X ≠ g by omega)); have HQ8 := hide (HQ7.out.gr hg1 hgB); have HO8 := hide (HO7.out.gr hg1 hgB)
        clear hg1 hs1 HD7 HP7 HX7 HQ7 HO7
        have hG : World.grownBy w8 (w8.setCell ⟨P, 7, none⟩ (.int .i64 t)) (some P) := gset (grown_refl _ _) _ _
        have HP9 : Hid (HoldV (w8.setCell ⟨P, 7, none⟩ (.int .i64 t)) P #[.int .i64 x0, .int .i64 x1, .bool x2, .bool x3, .int .i64 x4, .int .i64 x5, .int .i64 1, .int .i64 t, .int .i64 x8, .slice qa yn qc, .slice ua zn uc] pkT) := hide (HP8.out.putc 7 _)
        have HD9 := hide (HD8.out.put HA2.out HS2.out hG hBP)
        have HX9 := hide (HX8.out.gr hG (by omega))
        have HQ9 := hide (HQ8.out.gr2 hG (fun k hk => by have := hqP k hk; omega))
        have HO9 := hide (HO8.out.gr2 hG (fun k hk => by have := hOP k hk; omega))
        have cc := HP8.out.cell 7 _ rfl; have cf := HP8.out.frozen 7
        clear hG
        have hx0 := HP9.out.cell 0 _ rfl; have hx1 := HP9.out.cell 1 _ rfl; have hx2 := HP9.out.cell 2 _ rfl; have hx3 := HP9.out.cell 3 _ rfl; have hx4 := HP9.out.cell 4 _ rfl; have hx5 := HP9.out.cell 5 _ rfl; have hx6 := HP9.out.cell 6 _ rfl; have hx7 := HP9.out.cell 7 _ rfl; have hx8 := HP9.out.cell 8 _ rfl; have hx9 := HP9.out.cell 9 _ rfl; have hx10 := HP9.out.cell 10 _ rfl
        have hr0 := HX9.out.cell 0 _ rfl; have hr1 := HX9.out.cell 1 _ rfl; have hr2 := HX9.out.cell 2 _ rfl; have hr3 := HX9.out.cell 3 _ rfl; have hr4 := HX9.out.cell 4 _ rfl; have hr5 := HX9.out.cell 5 _ rfl; have hr6 := HX9.out.cell 6 _ rfl; have hr7 := HX9.out.cell 7 _ rfl; have hr8 := HX9.out.cell 8 _ rfl; have hr9 := HX9.out.cell 9 _ rfl; have hr10 := HX9.out.cell 10 _ rfl; have hrf := HX9.out.frozen
        have hGN : World.grownBy (w8.setCell ⟨P, 7, none⟩ (.int .i64 t)) ((((((((((((w8.setCell ⟨P, 7, none⟩ (.int .i64 t)).setCell ⟨X, 0, none⟩ (.int .i64 x0)).setCell ⟨X, 1, none⟩ (.int .i64 x1)).setCell ⟨X, 2, none⟩ (.bool x2)).setCell ⟨X, 3, none⟩ (.bool x3)).setCell ⟨X, 4, none⟩ (.int .i64 x4)).setCell ⟨X, 5, none⟩ (.int .i64 x5)).setCell ⟨X, 6, none⟩ (.int .i64 1)).setCell ⟨X, 7, none⟩ (.int .i64 t)).setCell ⟨X, 8, none⟩ (.int .i64 x8)).setCell ⟨X, 9, none⟩ (.slice qa yn qc)).setCell ⟨X, 10, none⟩ (.slice ua zn uc)) (some X) := set11 _ X _ _ _ _ _ _ _ _ _ _ _
        have HOz := hide ((HO9.out.gr2 hGN (own_ne HO9.out HX9.out (by decide))).low (show X ≤ W2.heap.size by omega))
        have HQz := hide ((HQ9.out.gr2 hGN (own_ne HQ9.out HX9.out (by decide))).low (show X ≤ W2.heap.size by omega))
        have HBz := hide ((HB2.out.trans (below_grown (show X ≤ g by omega) (show X ≤ W2.heap.size by omega) HD9.out.2.2.1)).trans (below_grown (Nat.le_refl X) (by have := HX9.out.lt; omega) hGN))
        clear hGN
        go_wp2_with fail
        subst hX
        exact bodyPost_ret (v := .agg #[.int .i64 x0, .int .i64 x1, .bool x2, .bool x3, .int .i64 x4, .int .i64 x5, .int .i64 1, .int .i64 t, .int .i64 x8, .slice qa yn qc, .slice ua zn uc]) (by simp [results, Tryz.results15, go_sem, hr0, hr1, hr2, hr3, hr4, hr5, hr6, hr7, hr8, hr9, hr10]) rfl ⟨_, rfl, ⟨_, _, _, _, _, _, _, _, _, _, _, ys, z, rfl, by have := HYL.out; have := HYN.out; omega, by have := HZL.out; have := HZN.out; omega, HQz.out, HOz.out, HAP.out⟩, HBz.out⟩
      · -- 1
        go_wp2_with fail
        refine (l02Addr_walk g zs _ a cap HD7.out.1 HD7.out.2.1 hl).mono ?_
        rintro e w8 ⟨t, rfl, _, _, hg1, hs1⟩
        have HD8 := hide (HD7.out.step hg1 hs1); have HP8 := hide (HP7.out.gr hg1 (show P ≠ g by omega)); have HX8 := hide (HX7.out.gr hg1 (show X ≠ g by omega)); have HQ8 := hide (HQ7.out.gr hg1 hgB); have HO8 := hide (HO7.out.gr hg1 hgB)
        clear hg1 hs1 HD7 HP7 HX7 HQ7 HO7
        have hG : World.grownBy w8 (w8.setCell ⟨P, 8, none⟩ (.int .i64 t)) (some P) := gset (grown_refl _ _) _ _
        have HP9 : Hid (HoldV (w8.setCell ⟨P, 8, none⟩ (.int .i64 t)) P #[.int .i64 x0, .int .i64 x1, .bool x2, .bool x3, .int .i64 x4, .int .i64 x5, .int .i64 1, .int .i64 x7, .int .i64 t, .slice qa yn qc, .slice ua zn uc] pkT) := hide (HP8.out.putc 8 _)
        have HD9 := hide (HD8.out.put HA2.out HS2.out hG hBP)
        have HX9 := hide (HX8.out.gr hG (by omega))
        have HQ9 := hide (HQ8.out.gr2 hG (fun k hk => by have := hqP k hk; omega))
        have HO9 := hide (HO8.out.gr2 hG (fun k hk => by have := hOP k hk; omega))
        have cc := HP8.out.cell 8 _ rfl; have cf := HP8.out.frozen 8
        clear hG
        have hx0 := HP9.out.cell 0 _ rfl; have hx1 := HP9.out.cell 1 _ rfl; have hx2 := HP9.out.cell 2 _ rfl; have hx3 := HP9.out.cell 3 _ rfl; have hx4 := HP9.out.cell 4 _ rfl; have hx5 := HP9.out.cell 5 _ rfl; have hx6 := HP9.out.cell 6 _ rfl; have hx7 := HP9.out.cell 7 _ rfl; have hx8 := HP9.out.cell 8 _ rfl; have hx9 := HP9.out.cell 9 _ rfl; have hx10 := HP9.out.cell 10 _ rfl
        have hr0 := HX9.out.cell 0 _ rfl; have hr1 := HX9.out.cell 1 _ rfl; have hr2 := HX9.out.cell 2 _ rfl; have hr3 := HX9.out.cell 3 _ rfl; have hr4 := HX9.out.cell 4 _ rfl; have hr5 := HX9.out.cell 5 _ rfl; have hr6 := HX9.out.cell 6 _ rfl; have hr7 := HX9.out.cell 7 _ rfl; have hr8 := HX9.out.cell 8 _ rfl; have hr9 := HX9.out.cell 9 _ rfl; have hr10 := HX9.out.cell 10 _ rfl; have hrf := HX9.out.frozen
        have hGN : World.grownBy (w8.setCell ⟨P, 8, none⟩ (.int .i64 t)) ((((((((((((w8.setCell ⟨P, 8, none⟩ (.int .i64 t)).setCell ⟨X, 0, none⟩ (.int .i64 x0)).setCell ⟨X, 1, none⟩ (.int .i64 x1)).setCell ⟨X, 2, none⟩ (.bool x2)).setCell ⟨X, 3, none⟩ (.bool x3)).setCell ⟨X, 4, none⟩ (.int .i64 x4)).setCell ⟨X, 5, none⟩ (.int .i64 x5)).setCell ⟨X, 6, none⟩ (.int .i64 1)).setCell ⟨X, 7, none⟩ (.int .i64 x7)).setCell ⟨X, 8, none⟩ (.int .i64 t)).setCell ⟨X, 9, none⟩ (.slice qa yn qc)).setCell ⟨X, 10, none⟩ (.slice ua zn uc)) (some X) := set11 _ X _ _ _ _ _ _ _ _ _ _ _
        have HOz := hide ((HO9.out.gr2 hGN (own_ne HO9.out HX9.out (by decide))).low (show X ≤ W2.heap.size by omega))
        have HQz := hide ((HQ9.out.gr2 hGN (own_ne HQ9.out HX9.out (by decide))).low (show X ≤ W2.heap.size by omega))
        have HBz := hide ((HB2.out.trans (below_grown (show X ≤ g by omega) (show X ≤ W2.heap.size by omega) HD9.out.2.2.1)).trans (below_grown (Nat.le_refl X) (by have := HX9.out.lt; omega) hGN))
        clear hGN
        go_wp2_with fail
        subst hX
        exact bodyPost_ret (v := .agg #[.int .i64 x0, .int .i64 x1, .bool x2, .bool x3, .int .i64 x4, .int .i64 x5, .int .i64 1, .int .i64 x7, .int .i64 t, .slice qa yn qc, .slice ua zn uc]) (by simp [results, Tryz.results15, go_sem, hr0, hr1, hr2, hr3, hr4, hr5, hr6, hr7, hr8, hr9, hr10]) rfl ⟨_, rfl, ⟨_, _, _, _, _, _, _, _, _, _, _, ys, z, rfl, by have := HYL.out; have := HYN.out; omega, by have := HZL.out; have := HZN.out; omega, HQz.out, HOz.out, HAP.out⟩, HBz.out⟩
      · -- 2
        have hp0 := HP7.out.cell 0 _ rfl; have hp1 := HP7.out.cell 1 _ rfl; have hp2 := HP7.out.cell 2 _ rfl; have hp3 := HP7.out.cell 3 _ rfl; have hp4 := HP7.out.cell 4 _ rfl; have hp5 := HP7.out.cell 5 _ rfl; have hp6 := HP7.out.cell 6 _ rfl; have hp7 := HP7.out.cell 7 _ rfl; have hp8 := HP7.out.cell 8 _ rfl; have hp9 := HP7.out.cell 9 _ rfl; have hp10 := HP7.out.cell 10 _ rfl
        have hszw : W2.heap.size ≤ w7.heap.size := HD7.out.2.2.1.size
        have CB := hide (l05Bend_walk g zs w7 a cap HD7.out.1 HD7.out.2.1 hl W2.heap.size hgB hszw x0 x1 x2 x3 x4 x5 1 x7 x8 qa yn qc ua zn uc ys z HYN.out HZN.out (by have := HYL.out; omega) (by have := HZL.out; omega) HQ7.out HO7.out HAP.out)
        go_wp2_with fail
        refine CB.out.mono ?_
        clear CB hp0 hp1 hp2 hp3 hp4 hp5 hp6 hp7 hp8 hp9 hp10
        rintro e w8 ⟨v, rfl, ⟨y0, y1, y2, y3, y4, y5, y6, y7, y8, u0, u1, ys2, z2, rfl, hy2, hz2, hq2, hO2, hapM⟩, hg1, hs1⟩
        have HD8 := hide (HD7.out.step hg1 hs1); have HP8 := hide (HP7.out.gr hg1 (show P ≠ g by omega)); have HX8 := hide (HX7.out.gr hg1 (show X ≠ g by omega))
        have HQ8 := hide hq2; have HO8 := hide hO2; have HYM := hide hy2; have HZM := hide hz2
        clear hg1 hs1 HD7 HP7 HX7 HQ7 HO7 hq2 hO2 hy2 hz2 hszw
        obtain ⟨qa2, qc2, hu0, _⟩ := own_slice HQ8.out
        obtain ⟨ua2, uc2, hu1, _⟩ := own_slice HO8.out
        have HYM2 : Hid (∃ l : List Int, l = ys2) := hide ⟨_, rfl⟩
        generalize hyn2 : ys2.length = yn2 at *
        generalize hzn2 : z2.length = zn2 at *
        subst hu0 hu1
        have hG : w8.grownBy (((((((((((w8.setCell ⟨P, 0, none⟩ (.int .i64 y0)).setCell ⟨P, 1, none⟩ (.int .i64 y1)).setCell ⟨P, 2, none⟩ (.bool y2)).setCell ⟨P, 3, none⟩ (.bool y3)).setCell ⟨P, 4, none⟩ (.int .i64 y4)).setCell ⟨P, 5, none⟩ (.int .i64 y5)).setCell ⟨P, 6, none⟩ (.int .i64 y6)).setCell ⟨P, 7, none⟩ (.int .i64 y7)).setCell ⟨P, 8, none⟩ (.int .i64 y8)).setCell ⟨P, 9, none⟩ (.slice qa2 yn2 qc2)).setCell ⟨P, 10, none⟩ (.slice ua2 zn2 uc2)) (some P) := set11 _ P _ _ _ _ _ _ _ _ _ _ _
        have HP9 : Hid (HoldV (((((((((((w8.setCell ⟨P, 0, none⟩ (.int .i64 y0)).setCell ⟨P, 1, none⟩ (.int .i64 y1)).setCell ⟨P, 2, none⟩ (.bool y2)).setCell ⟨P, 3, none⟩ (.bool y3)).setCell ⟨P, 4, none⟩ (.int .i64 y4)).setCell ⟨P, 5, none⟩ (.int .i64 y5)).setCell ⟨P, 6, none⟩ (.int .i64 y6)).setCell ⟨P, 7, none⟩ (.int .i64 y7)).setCell ⟨P, 8, none⟩ (.int .i64 y8)).setCell ⟨P, 9, none⟩ (.slice qa2 yn2 qc2)).setCell ⟨P, 10, none⟩ (.slice ua2 zn2 uc2)) P #[.int .i64 y0, .int .i64 y1, .bool y2, .bool y3, .int .i64 y4, .int .i64 y5, .int .i64 y6, .int .i64 y7, .int .i64 y8, .slice qa2 yn2 qc2, .slice ua2 zn2 uc2] pkT) := hide (HP8.out.set11 _ _ _ _ _ _ _ _ _ _ _)
        have HD9 := hide (HD8.out.put HA2.out HS2.out hG hBP); have HX9 := hide (HX8.out.gr hG (by omega))
        have HQ9 := hide (HQ8.out.gr2 hG (own_ne HQ8.out HP8.out (by decide))); have HO9 := hide (HO8.out.gr2 hG (own_ne HO8.out HP8.out (by decide)))
        have hc0 := HP8.out.cell 0 _ rfl; have hc1 := HP8.out.cell 1 _ rfl; have hc2 := HP8.out.cell 2 _ rfl; have hc3 := HP8.out.cell 3 _ rfl; have hc4 := HP8.out.cell 4 _ rfl; have hc5 := HP8.out.cell 5 _ rfl; have hc6 := HP8.out.cell 6 _ rfl; have hc7 := HP8.out.cell 7 _ rfl; have hc8 := HP8.out.cell 8 _ rfl; have hc9 := HP8.out.cell 9 _ rfl; have hc10 := HP8.out.cell 10 _ rfl; have hcf := HP8.out.frozen
        clear hG
        replace HYM : Hid (ys2.length ≤ 44) := hide (by rw [hyn2]; exact HYM.out)
        replace HZM : Hid (z2.length ≤ 65516) := hide (by rw [hzn2]; exact HZM.out)
        clear hyn2 hzn2
        have hx0 := HP9.out.cell 0 _ rfl; have hx1 := HP9.out.cell 1 _ rfl; have hx2 := HP9.out.cell 2 _ rfl; have hx3 := HP9.out.cell 3 _ rfl; have hx4 := HP9.out.cell 4 _ rfl; have hx5 := HP9.out.cell 5 _ rfl; have hx6 := HP9.out.cell 6 _ rfl; have hx7 := HP9.out.cell 7 _ rfl; have hx8 := HP9.out.cell 8 _ rfl; have hx9 := HP9.out.cell 9 _ rfl; have hx10 := HP9.out.cell 10 _ rfl
        have hr0 := HX9.out.cell 0 _ rfl; have hr1 := HX9.out.cell 1 _ rfl; have hr2 := HX9.out.cell 2 _ rfl; have hr3 := HX9.out.cell 3 _ rfl; have hr4 := HX9.out.cell 4 _ rfl; have hr5 := HX9.out.cell 5 _ rfl; have hr6 := HX9.out.cell 6 _ rfl; have hr7 := HX9.out.cell 7 _ rfl; have hr8 := HX9.out.cell 8 _ rfl; have hr9 := HX9.out.cell 9 _ rfl; have hr10 := HX9.out.cell 10 _ rfl; have hrf := HX9.out.frozen
        have hGN : World.grownBy (((((((((((w8.setCell ⟨P, 0, none⟩ (.int .i64 y0)).setCell ⟨P, 1, none⟩ (.int .i64 y1)).setCell ⟨P, 2, none⟩ (.bool y2)).setCell ⟨P, 3, none⟩ (.bool y3)).setCell ⟨P, 4, none⟩ (.int .i64 y4)).setCell ⟨P, 5, none⟩ (.int .i64 y5)).setCell ⟨P, 6, none⟩ (.int .i64 y6)).setCell ⟨P, 7, none⟩ (.int .i64 y7)).setCell ⟨P, 8, none⟩ (.int .i64 y8)).setCell ⟨P, 9, none⟩ (.slice qa2 yn2 qc2)).setCell ⟨P, 10, none⟩ (.slice ua2 zn2 uc2)) ((((((((((((((((((((((w8.setCell ⟨P, 0, none⟩ (.int .i64 y0)).setCell ⟨P, 1, none⟩ (.int .i64 y1)).setCell ⟨P, 2, none⟩ (.bool y2)).setCell ⟨P, 3, none⟩ (.bool y3)).setCell ⟨P, 4, none⟩ (.int .i64 y4)).setCell ⟨P, 5, none⟩ (.int .i64 y5)).setCell ⟨P, 6, none⟩ (.int .i64 y6)).setCell ⟨P, 7, none⟩ (.int .i64 y7)).setCell ⟨P, 8, none⟩ (.int .i64 y8)).setCell ⟨P, 9, none⟩ (.slice qa2 yn2 qc2)).setCell ⟨P, 10, none⟩ (.slice ua2 zn2 uc2)).setCell ⟨X, 0, none⟩ (.int .i64 y0)).setCell ⟨X, 1, none⟩ (.int .i64 y1)).setCell ⟨X, 2, none⟩ (.bool y2)).setCell ⟨X, 3, none⟩ (.bool y3)).setCell ⟨X, 4, none⟩ (.int .i64 y4)).setCell ⟨X, 5, none⟩ (.int .i64 y5)).setCell ⟨X, 6, none⟩ (.int .i64 y6)).setCell ⟨X, 7, none⟩ (.int .i64 y7)).setCell ⟨X, 8, none⟩ (.int .i64 y8)).setCell ⟨X, 9, none⟩ (.slice qa2 yn2 qc2)).setCell ⟨X, 10, none⟩ (.slice ua2 zn2 uc2)) (some X) := set11 _ X _ _ _ _ _ _ _ _ _ _ _
        have HOz := hide ((HO9.out.gr2 hGN (own_ne HO9.out HX9.out (by decide))).low (show X ≤ W2.heap.size by omega))
        have HQz := hide ((HQ9.out.gr2 hGN (own_ne HQ9.out HX9.out (by decide))).low (show X ≤ W2.heap.size by omega))
        have HBz := hide ((HB2.out.trans (below_grown (show X ≤ g by omega) (show X ≤ W2.heap.size by omega) HD9.out.2.2.1)).trans (below_grown (Nat.le_refl X) (by have := HX9.out.lt; omega) hGN))
        clear hGN
        go_wp2_with fail
        subst hX
        exact bodyPost_ret (v := .agg #[.int .i64 y0, .int .i64 y1, .bool y2, .bool y3, .int .i64 y4, .int .i64 y5, .int .i64 y6, .int .i64 y7, .int .i64 y8, .slice qa2 yn2 qc2, .slice ua2 zn2 uc2]) (by simp [results, Tryz.results15, go_sem, hr0, hr1, hr2, hr3, hr4, hr5, hr6, hr7, hr8, hr9, hr10]) rfl ⟨_, rfl, ⟨_, _, _, _, _, _, _, _, _, _, _, ys2, z2, rfl, HYM.out, HZM.out, HQz.out, HOz.out, hapM⟩, HBz.out⟩
      · have b0 : (r == 0) = false := beq_eq_false_iff_ne.2 (by omega)
        have b1 : (r == 1) = false := beq_eq_false_iff_ne.2 (by omega)
        have b2 : (r == 2) = false := beq_eq_false_iff_ne.2 (by omega)
        have hx0 := HP7.out.cell 0 _ rfl; have hx1 := HP7.out.cell 1 _ rfl; have hx2 := HP7.out.cell 2 _ rfl; have hx3 := HP7.out.cell 3 _ rfl; have hx4 := HP7.out.cell 4 _ rfl; have hx5 := HP7.out.cell 5 _ rfl; have hx6 := HP7.out.cell 6 _ rfl; have hx7 := HP7.out.cell 7 _ rfl; have hx8 := HP7.out.cell 8 _ rfl; have hx9 := HP7.out.cell 9 _ rfl; have hx10 := HP7.out.cell 10 _ rfl
        have hr0 := HX7.out.cell 0 _ rfl; have hr1 := HX7.out.cell 1 _ rfl; have hr2 := HX7.out.cell 2 _ rfl; have hr3 := HX7.out.cell 3 _ rfl; have hr4 := HX7.out.cell 4 _ rfl; have hr5 := HX7.out.cell 5 _ rfl; have hr6 := HX7.out.cell 6 _ rfl; have hr7 := HX7.out.cell 7 _ rfl; have hr8 := HX7.out.cell 8 _ rfl; have hr9 := HX7.out.cell 9 _ rfl; have hr10 := HX7.out.cell 10 _ rfl; have hrf := HX7.out.frozen
        have hGN : World.grownBy w7 (((((((((((w7.setCell ⟨X, 0, none⟩ (.int .i64 x0)).setCell ⟨X, 1, none⟩ (.int .i64 x1)).setCell ⟨X, 2, none⟩ (.bool x2)).setCell ⟨X, 3, none⟩ (.bool x3)).setCell ⟨X, 4, none⟩ (.int .i64 x4)).setCell ⟨X, 5, none⟩ (.int .i64 x5)).setCell ⟨X, 6, none⟩ (.int .i64 1)).setCell ⟨X, 7, none⟩ (.int .i64 x7)).setCell ⟨X, 8, none⟩ (.int .i64 x8)).setCell ⟨X, 9, none⟩ (.slice qa yn qc)).setCell ⟨X, 10, none⟩ (.slice ua zn uc)) (some X) := set11 _ X _ _ _ _ _ _ _ _ _ _ _
        have HOz := hide ((HO7.out.gr2 hGN (own_ne HO7.out HX7.out (by decide))).low (show X ≤ W2.heap.size by omega))
        have HQz := hide ((HQ7.out.gr2 hGN (own_ne HQ7.out HX7.out (by decide))).low (show X ≤ W2.heap.size by omega))
        have HBz := hide ((HB2.out.trans (below_grown (show X ≤ g by omega) (show X ≤ W2.heap.size by omega) HD7.out.2.2.1)).trans (below_grown (Nat.le_refl X) (by have := HX7.out.lt; omega) hGN))
        clear hGN
        go_wp2_with fail
        subst hX
        exact bodyPost_ret (v := .agg #[.int .i64 x0, .int .i64 x1, .bool x2, .bool x3, .int .i64 x4, .int .i64 x5, .int .i64 1, .int .i64 x7, .int .i64 x8, .slice qa yn qc, .slice ua zn uc]) (by simp [results, Tryz.results15, go_sem, hr0, hr1, hr2, hr3, hr4, hr5, hr6, hr7, hr8, hr9, hr10]) rfl ⟨_, rfl, ⟨_, _, _, _, _, _, _, _, _, _, _, ys, z, rfl, by have := HYL.out; have := HYN.out; omega, by have := HZL.out; have := HZN.out; omega, HQz.out, HOz.out, HAP.out⟩, HBz.out⟩
  · have h6b : (x6 == 1) = false := beq_eq_false_iff_ne.2 h6
    go_wp2_with fail
    clear hp6 hp10
    refine (l01Next_walk g 8 zs _ a cap HD4.out.1 HD4.out.2.1 (by omega) (by omega) hl).mono ?_
    rintro e w7 ⟨r, rfl, r0, r1, hg1, hs1⟩
    have HD7 := hide (HD4.out.step hg1 hs1); have HP7 := hide (HP4.out.gr hg1 (show P ≠ g by omega)); have HX7 := hide (HX4.out.gr hg1 (show X ≠ g by omega)); have HQ7 := hide (HQ4.out.gr hg1 hgB); have HO7 := hide (HO4.out.gr hg1 hgB)
    clear hg1 hs1 HD4 HP4 HX4 HQ4 HO4
    rcases (show r = 0 ∨ r = 1 ∨ r = 2 ∨ 3 ≤ r by omega) with rfl | rfl | rfl | hr
    · -- 0
      go_wp2_with fail
      refine (l02Addr_walk g zs _ a cap HD7.out.1 HD7.out.2.1 hl).mono ?_
      rintro e w8 ⟨t, rfl, _, _, hg1, hs1⟩
      have HD8 := hide (HD7.out.step hg1 hs1); have HP8 := hide (HP7.out.gr hg1 (show P ≠ g by omega)); have HX8 := hide (HX7.out.gr hg1 (show X ≠ g by omega)); have HQ8 := hide (HQ7.out.gr hg1 hgB); have HO8 := hide (HO7.out.gr hg1 hgB)
      clear hg1 hs1 HD7 HP7 HX7 HQ7 HO7
      have hG : World.grownBy w8 (w8.setCell ⟨P, 7, none⟩ (.int .i64 t)) (some P) := gset (grown_refl _ _) _ _
      have HP9 : Hid (HoldV (w8.setCell ⟨P, 7, none⟩ (.int .i64 t)) P #[.int .i64 x0, .int .i64 x1, .bool x2, .bool x3, .int .i64 x4, .int .i64 x5, .int .i64 x6, .int .i64 t, .int .i64 x8, .slice qa yn qc, .slice ua zn uc] pkT) := hide (HP8.out.putc 7 _)
      have HD9 := hide (HD8.out.put HA2.out HS2.out hG hBP)
      have HX9 := hide (HX8.out.gr hG (by omega))
      have HQ9 := hide (HQ8.out.gr2 hG (fun k hk => by have := hqP k hk; omega))
      have HO9 := hide (HO8.out.gr2 hG (fun k hk => by have := hOP k hk; omega))
      have cc := HP8.out.cell 7 _ rfl; have cf := HP8.out.frozen 7
      clear hG
      have hx0 := HP9.out.cell 0 _ rfl; have hx1 := HP9.out.cell 1 _ rfl; have hx2 := HP9.out.cell 2 _ rfl; have hx3 := HP9.out.cell 3 _ rfl; have hx4 := HP9.out.cell 4 _ rfl; have hx5 := HP9.out.cell 5 _ rfl; have hx6 := HP9.out.cell 6 _ rfl; have hx7 := HP9.out.cell 7 _ rfl; have hx8 := HP9.out.cell 8 _ rfl; have hx9 := HP9.out.cell 9 _ rfl; have hx10 := HP9.out.cell 10 _ rfl
      have hr0 := HX9.out.cell 0 _ rfl; have hr1 := HX9.out.cell 1 _ rfl; have hr2 := HX9.out.cell 2 _ rfl; have hr3 := HX9.out.cell 3 _ rfl; have hr4 := HX9.out.cell 4 _ rfl; have hr5 := HX9.out.cell 5 _ rfl; have hr6 := HX9.out.cell 6 _ rfl; have hr7 := HX9.out.cell 7 _ rfl; have hr8 := HX9.out.cell 8 _ rfl; have hr9 := HX9.out.cell 9 _ rfl; have hr10 := HX9.out.cell 10 _ rfl; have hrf := HX9.out.frozen
      have hGN : World.grownBy (w8.setCell ⟨P, 7, none⟩ (.int .i64 t)) ((((((((((((w8.setCell ⟨P, 7, none⟩ (.int .i64 t)).setCell ⟨X, 0, none⟩ (.int .i64 x0)).setCell ⟨X, 1, none⟩ (.int .i64 x1)).setCell ⟨X, 2, none⟩ (.bool x2)).setCell ⟨X, 3, none⟩ (.bool x3)).setCell ⟨X, 4, none⟩ (.int .i64 x4)).setCell ⟨X, 5, none⟩ (.int .i64 x5)).setCell ⟨X, 6, none⟩ (.int .i64 x6)).setCell ⟨X, 7, none⟩ (.int .i64 t)).setCell ⟨X, 8, none⟩ (.int .i64 x8)).setCell ⟨X, 9, none⟩ (.slice qa yn qc)).setCell ⟨X, 10, none⟩ (.slice ua zn uc)) (some X) := set11 _ X _ _ _ _ _ _ _ _ _ _ _
      have HOz := hide ((HO9.out.gr2 hGN (own_ne HO9.out HX9.out (by decide))).low (show X ≤ W2.heap.size by omega))
      have HQz := hide ((HQ9.out.gr2 hGN (own_ne HQ9.out HX9.out (by decide))).low (show X ≤ W2.heap.size by omega))
      have HBz := hide ((HB2.out.trans (below_grown (show X ≤ g by omega) (show X ≤ W2.heap.size by omega) HD9.out.2.2.1)).trans (below_grown (Nat.le_refl X) (by have := HX9.out.lt; omega) hGN))
      clear hGN
      go_wp2_with fail
      subst hX
      exact bodyPost_ret (v := .agg #[.int .i64 x0, .int .i64 x1, .bool x2, .bool x3, .int .i64 x4, .int .i64 x5, .int .i64 x6, .int .i64 t, .int .i64 x8, .slice qa yn qc, .slice ua zn uc]) (by simp [results, Tryz.results15, go_sem, hr0, hr1, hr2, hr3, hr4, hr5, hr6, hr7, hr8, hr9, hr10]) rfl ⟨_, rfl, ⟨_, _, _, _, _, _, _, _, _, _, _, ys, z, rfl, by have := HYL.out; have := HYN.out; omega, by have := HZL.out; have := HZN.out; omega, HQz.out, HOz.out, HAP.out⟩, HBz.out⟩
    · -- 1
      go_wp2_with fail
      refine (l02Addr_walk g zs _ a cap HD7.out.1 HD7.out.2.1 hl).mono ?_
      rintro e w8 ⟨t, rfl, _, _, hg1, hs1⟩
      have HD8 := hide (HD7.out.step hg1 hs1); have HP8 := hide (HP7.out.gr hg1 (show P ≠ g by omega)); have HX8 := hide (HX7.out.gr hg1 (show X ≠ g by omega)); have HQ8 := hide (HQ7.out.gr hg1 hgB); have HO8 := hide (HO7.out.gr hg1 hgB)
      clear hg1 hs1 HD7 HP7 HX7 HQ7 HO7
      have hG : World.grownBy w8 (w8.setCell ⟨P, 8, none⟩ (.int .i64 t)) (some P) := gset (grown_refl _ _) _ _
      have HP9 : Hid (HoldV (w8.setCell ⟨P, 8, none⟩ (.int .i64 t)) P #[.int .i64 x0, .int .i64 x1, .bool x2, .bool x3, .int .i64 x4, .int .i64 x5, .int .i64 x6, .int .i64 x7, .int .i64 t, .slice qa yn qc, .slice ua zn uc] pkT) := hide (HP8.out.putc 8 _)
      have HD9 := hide (HD8.out.put HA2.out HS2.out hG hBP)
      have HX9 := hide (HX8.out.gr hG (by omega))
      have HQ9 := hide (HQ8.out.gr2 hG (fun k hk => by have := hqP k hk; omega))
      have HO9 := hide (HO8.out.gr2 hG (fun k hk => by have := hOP k hk; omega))
      have cc := HP8.out.cell 8 _ rfl; have cf := HP8.out.frozen 8
      clear hG
      have hx0 := HP9.out.cell 0 _ rfl; have hx1 := HP9.out.cell 1 _ rfl; have hx2 := HP9.out.cell 2 _ rfl; have hx3 := HP9.out.cell 3 _ rfl; have hx4 := HP9.out.cell 4 _ rfl; have hx5 := HP9.out.cell 5 _ rfl; have hx6 := HP9.out.cell 6 _ rfl; have hx7 := HP9.out.cell 7 _ rfl; have hx8 := HP9.out.cell 8 _ rfl; have hx9 := HP9.out.cell 9 _ rfl; have hx10 := HP9.out.cell 10 _ rfl
      have hr0 := HX9.out.cell 0 _ rfl; have hr1 := HX9.out.cell 1 _ rfl; have hr2 := HX9.out.cell 2 _ rfl; have hr3 := HX9.out.cell 3 _ rfl; have hr4 := HX9.out.cell 4 _ rfl; have hr5 := HX9.out.cell 5 _ rfl; have hr6 := HX9.out.cell 6 _ rfl; have hr7 := HX9.out.cell 7 _ rfl; have hr8 := HX9.out.cell 8 _ rfl; have hr9 := HX9.out.cell 9 _ rfl; have hr10 := HX9.out.cell 10 _ rfl; have hrf := HX9.out.frozen
      have hGN : World.grownBy (w8.setCell ⟨P, 8, none⟩ (.int .i64 t)) ((((((((((((w8.setCell ⟨P, 8, none⟩ (.int .i64 t)).setCell ⟨X, 0, none⟩ (.int .i64 x0)).setCell ⟨X, 1, none⟩ (.int .i64 x1)).setCell ⟨X, 2, none⟩ (.bool x2)).setCell ⟨X, 3, none⟩ (.bool x3)).setCell ⟨X, 4, none⟩ (.int .i64 x4)).setCell ⟨X, 5, none⟩ (.int .i64 x5)).setCell ⟨X, 6, none⟩ (.int .i64 x6)).setCell ⟨X, 7, none⟩ (.int .i64 x7)).setCell ⟨X, 8, none⟩ (.int .i64 t)).setCell ⟨X, 9, none⟩ (.slice qa yn qc)).setCell ⟨X, 10, none⟩ (.slice ua zn uc)) (some X) := set11 _ X _ _ _ _ _ _ _ _ _ _ _
      have HOz := hide ((HO9.out.gr2 hGN (own_ne HO9.out HX9.out (by decide))).low (show X ≤ W2.heap.size by omega))
      have HQz := hide ((HQ9.out.gr2 hGN (own_ne HQ9.out HX9.out (by decide))).low (show X ≤ W2.heap.size by omega))
      have HBz := hide ((HB2.out.trans (below_grown (show X ≤ g by omega) (show X ≤ W2.heap.size by omega) HD9.out.2.2.1)).trans (below_grown (Nat.le_refl X) (by have := HX9.out.lt; omega) hGN))
      clear hGN
      go_wp2_with fail
      subst hX
      exact bodyPost_ret (v := .agg #[.int .i64 x0, .int .i64 x1, .bool x2, .bool x3, .int .i64 x4, .int .i64 x5, .int .i64 x6, .int .i64 x7, .int .i64 t, .slice qa yn qc, .slice ua zn uc]) (by simp [results, Tryz.results15, go_sem, hr0, hr1, hr2, hr3, hr4, hr5, hr6, hr7, hr8, hr9, hr10]) rfl ⟨_, rfl, ⟨_, _, _, _, _, _, _, _, _, _, _, ys, z, rfl, by have := HYL.out; have := HYN.out; omega, by have := HZL.out; have := HZN.out; omega, HQz.out, HOz.out, HAP.out⟩, HBz.out⟩
    · -- 2
      have hp0 := HP7.out.cell 0 _ rfl; have hp1 := HP7.out.cell 1 _ rfl; have hp2 := HP7.out.cell 2 _ rfl; have hp3 := HP7.out.cell 3 _ rfl; have hp4 := HP7.out.cell 4 _ rfl; have hp5 := HP7.out.cell 5 _ rfl; have hp6 := HP7.out.cell 6 _ rfl; have hp7 := HP7.out.cell 7 _ rfl; have hp8 := HP7.out.cell 8 _ rfl; have hp9 := HP7.out.cell 9 _ rfl; have hp10 := HP7.out.cell 10 _ rfl
      have hszw : W2.heap.size ≤ w7.heap.size := HD7.out.2.2.1.size
      have CB := hide (l05Bend_walk g zs w7 a cap HD7.out.1 HD7.out.2.1 hl W2.heap.size hgB hszw x0 x1 x2 x3 x4 x5 x6 x7 x8 qa yn qc ua zn uc ys z HYN.out HZN.out (by have := HYL.out; omega) (by have := HZL.out; omega) HQ7.out HO7.out HAP.out)
      go_wp2_with fail
      refine CB.out.mono ?_
      clear CB hp0 hp1 hp2 hp3 hp4 hp5 hp6 hp7 hp8 hp9 hp10
      rintro e w8 ⟨v, rfl, ⟨y0, y1, y2, y3, y4, y5, y6, y7, y8, u0, u1, ys2, z2, rfl, hy2, hz2, hq2, hO2, hapM⟩, hg1, hs1⟩
      have HD8 := hide (HD7.out.step hg1 hs1); have HP8 := hide (HP7.out.gr hg1 (show P ≠ g by omega)); have HX8 := hide (HX7.out.gr hg1 (show X ≠ g by omega))
      have HQ8 := hide hq2; have HO8 := hide hO2; have HYM := hide hy2; have HZM := hide hz2
      clear hg1 hs1 HD7 HP7 HX7 HQ7 HO7 hq2 hO2 hy2 hz2 hszw
      obtain ⟨qa2, qc2, hu0, _⟩ := own_slice HQ8.out
      obtain ⟨ua2, uc2, hu1, _⟩ := own_slice HO8.out
      have HYM2 : Hid (∃ l : List Int, l = ys2) := hide ⟨_, rfl⟩
      generalize hyn2 : ys2.length = yn2 at *
      generalize hzn2 : z2.length = zn2 at *
      subst hu0 hu1
      have hG : w8.grownBy (((((((((((w8.setCell ⟨P, 0, none⟩ (.int .i64 y0)).setCell ⟨P, 1, none⟩ (.int .i64 y1)).setCell ⟨P, 2, none⟩ (.bool y2)).setCell ⟨P, 3, none⟩ (.bool y3)).setCell ⟨P, 4, none⟩ (.int .i64 y4)).setCell ⟨P, 5, none⟩ (.int .i64 y5)).setCell ⟨P, 6, none⟩ (.int .i64 y6)).setCell ⟨P, 7, none⟩ (.int .i64 y7)).setCell ⟨P, 8, none⟩ (.int .i64 y8)).setCell ⟨P, 9, none⟩ (.slice qa2 yn2 qc2)).setCell ⟨P, 10, none⟩ (.slice ua2 zn2 uc2)) (some P) := set11 _ P _ _ _ _ _ _ _ _ _ _ _
      have HP9 : Hid (HoldV (((((((((((w8.setCell ⟨P, 0, none⟩ (.int .i64 y0)).setCell ⟨P, 1, none⟩ (.int .i64 y1)).setCell ⟨P, 2, none⟩ (.bool y2)).setCell ⟨P, 3, none⟩ (.bool y3)).setCell ⟨P, 4, none⟩ (.int .i64 y4)).setCell ⟨P, 5, none⟩ (.int .i64 y5)).setCell ⟨P, 6, none⟩ (.int .i64 y6)).setCell ⟨P, 7, none⟩ (.int .i64 y7)).setCell ⟨P, 8, none⟩ (.int .i64 y8)).setCell ⟨P, 9, none⟩ (.slice qa2 yn2 qc2)).setCell ⟨P, 10, none⟩ (.slice ua2 zn2 uc2)) P #[.int .i64 y0, .int .i64 y1, .bool y2, .bool y3, .int .i64 y4, .int .i64 y5, .int .i64 y6, .int .i64 y7, .int .i64 y8, .slice qa2 yn2 qc2, .slice ua2 zn2 uc2] pkT) := hide (HP8.out.set11 _ _ _ _ _ _ _ _ _ _ _)
      have HD9 := hide (HD8.out.put HA2.out HS2.out hG hBP); have HX9 := hide (HX8.out.gr hG (by omega))
      have HQ9 := hide (HQ8.out.gr2 hG (own_ne HQ8.out HP8.out (by decide))); have HO9 := hide (HO8.out.gr2 hG (own_ne HO8.out HP8.out (by decide)))
      have hc0 := HP8.out.cell 0 _ rfl; have hc1 := HP8.out.cell 1 _ rfl; have hc2 := HP8.out.cell 2 _ rfl; have hc3 := HP8.out.cell 3 _ rfl; have hc4 := HP8.out.cell 4 _ rfl; have hc5 := HP8.out.cell 5 _ rfl; have hc6 := HP8.out.cell 6 _ rfl; have hc7 := HP8.out.cell 7 _ rfl; have hc8 := HP8.out.cell 8 _ rfl; have hc9 := HP8.out.cell 9 _ rfl; have hc10 := HP8.out.cell 10 _ rfl; have hcf := HP8.out.frozen
      clear hG
      replace HYM : Hid (ys2.length ≤ 44) := hide (by rw [hyn2]; exact HYM.out)
      replace HZM : Hid (z2.length ≤ 65516) := hide (by rw [hzn2]; exact HZM.out)
      clear hyn2 hzn2
      have hx0 := HP9.out.cell 0 _ rfl; have hx1 := HP9.out.cell 1 _ rfl; have hx2 := HP9.out.cell 2 _ rfl; have hx3 := HP9.out.cell 3 _ rfl; have hx4 := HP9.out.cell 4 _ rfl; have hx5 := HP9.out.cell 5 _ rfl; have hx6 := HP9.out.cell 6 _ rfl; have hx7 := HP9.out.cell 7 _ rfl; have hx8 := HP9.out.cell 8 _ rfl; have hx9 := HP9.out.cell 9 _ rfl; have hx10 := HP9.out.cell 10 _ rfl
      have hr0 := HX9.out.cell 0 _ rfl; have hr1 := HX9.out.cell 1 _ rfl; have hr2 := HX9.out.cell 2 _ rfl; have hr3 := HX9.out.cell 3 _ rfl; have hr4 := HX9.out.cell 4 _ rfl; have hr5 := HX9.out.cell 5 _ rfl; have hr6 := HX9.out.cell 6 _ rfl; have hr7 := HX9.out.cell 7 _ rfl; have hr8 := HX9.out.cell 8 _ rfl; have hr9 := HX9.out.cell 9 _ rfl; have hr10 := HX9.out.cell 10 _ rfl; have hrf := HX9.out.frozen
      have hGN : World.grownBy (((((((((((w8.setCell ⟨P, 0, none⟩ (.int .i64 y0)).setCell ⟨P, 1, none⟩ (.int .i64 y1)).setCell ⟨P, 2, none⟩ (.bool y2)).setCell ⟨P, 3, none⟩ (.bool y3)).setCell ⟨P, 4, none⟩ (.int .i64 y4)).setCell ⟨P, 5, none⟩ (.int .i64 y5)).setCell ⟨P, 6, none⟩ (.int .i64 y6)).setCell ⟨P, 7, none⟩ (.int .i64 y7)).setCell ⟨P, 8, none⟩ (.int .i64 y8)).setCell ⟨P, 9, none⟩ (.slice qa2 yn2 qc2)).setCell ⟨P, 10, none⟩ (.slice ua2 zn2 uc2)) ((((((((((((((((((((((w8.setCell ⟨P, 0, none⟩ (.int .i64 y0)).setCell ⟨P, 1, none⟩ (.int .i64 y1)).setCell ⟨P, 2, none⟩ (.bool y2)).setCell ⟨P, 3, none⟩ (.bool y3)).setCell ⟨P, 4, none⟩ (.int .i64 y4)).setCell ⟨P, 5, none⟩ (.int .i64 y5)).setCell ⟨P, 6, none⟩ (.int .i64 y6)).setCell ⟨P, 7, none⟩ (.int .i64 y7)).setCell ⟨P, 8, none⟩ (.int .i64 y8)).setCell ⟨P, 9, none⟩ (.slice qa2 yn2 qc2)).setCell ⟨P, 10, none⟩ (.slice ua2 zn2 uc2)).setCell ⟨X, 0, none⟩ (.int .i64 y0)).setCell ⟨X, 1, none⟩ (.int .i64 y1)).setCell ⟨X, 2, none⟩ (.bool y2)).setCell ⟨X, 3, none⟩ (.bool y3)).setCell ⟨X, 4, none⟩ (.int .i64 y4)).setCell ⟨X, 5, none⟩ (.int .i64 y5)).setCell ⟨X, 6, none⟩ (.int .i64 y6)).setCell ⟨X, 7, none⟩ (.int .i64 y7)).setCell ⟨X, 8, none⟩ (.int .i64 y8)).setCell ⟨X, 9, none⟩ (.slice qa2 yn2 qc2)).setCell ⟨X, 10, none⟩ (.slice ua2 zn2 uc2)) (some X) := set11 _ X _ _ _ _ _ _ _ _ _ _ _
      have HOz := hide ((HO9.out.gr2 hGN (own_ne HO9.out HX9.out (by decide))).low (show X ≤ W2.heap.size by omega))
      have HQz := hide ((HQ9.out.gr2 hGN (own_ne HQ9.out HX9.out (by decide))).low (show X ≤ W2.heap.size by omega))
      have HBz := hide ((HB2.out.trans (below_grown (show X ≤ g by omega) (show X ≤ W2.heap.size by omega) HD9.out.2.2.1)).trans (below_grown (Nat.le_refl X) (by have := HX9.out.lt; omega) hGN))
      clear hGN
      go_wp2_with fail
      subst hX
      exact bodyPost_ret (v := .agg #[.int .i64 y0, .int .i64 y1, .bool y2, .bool y3, .int .i64 y4, .int .i64 y5, .int .i64 y6, .int .i64 y7, .int .i64 y8, .slice qa2 yn2 qc2, .slice ua2 zn2 uc2]) (by simp [results, Tryz.results15, go_sem, hr0, hr1, hr2, hr3, hr4, hr5, hr6, hr7, hr8, hr9, hr10]) rfl ⟨_, rfl, ⟨_, _, _, _, _, _, _, _, _, _, _, ys2, z2, rfl, HYM.out, HZM.out, HQz.out, HOz.out, hapM⟩, HBz.out⟩
    · have b0 : (r == 0) = false := beq_eq_false_iff_ne.2 (by omega)
      have b1 : (r == 1) = false := beq_eq_false_iff_ne.2 (by omega)
      have b2 : (r == 2) = false := beq_eq_false_iff_ne.2 (by omega)
      have hx0 := HP7.out.cell 0 _ rfl; have hx1 := HP7.out.cell 1 _ rfl; have hx2 := HP7.out.cell 2 _ rfl; have hx3 := HP7.out.cell 3 _ rfl; have hx4 := HP7.out.cell 4 _ rfl; have hx5 := HP7.out.cell 5 _ rfl; have hx6 := HP7.out.cell 6 _ rfl; have hx7 := HP7.out.cell 7 _ rfl; have hx8 := HP7.out.cell 8 _ rfl; have hx9 := HP7.out.cell 9 _ rfl; have hx10 := HP7.out.cell 10 _ rfl
      have hr0 := HX7.out.cell 0 _ rfl; have hr1 := HX7.out.cell 1 _ rfl; have hr2 := HX7.out.cell 2 _ rfl; have hr3 := HX7.out.cell 3 _ rfl; have hr4 := HX7.out.cell 4 _ rfl; have hr5 := HX7.out.cell 5 _ rfl; have hr6 := HX7.out.cell 6 _ rfl; have hr7 := HX7.out.cell 7 _ rfl; have hr8 := HX7.out.cell 8 _ rfl; have hr9 := HX7.out.cell 9 _ rfl; have hr10 := HX7.out.cell 10 _ rfl; have hrf := HX7.out.frozen
      have hGN : World.grownBy w7 (((((((((((w7.setCell ⟨X, 0, none⟩ (.int .i64 x0)).setCell ⟨X, 1, none⟩ (.int .i64 x1)).setCell ⟨X, 2, none⟩ (.bool x2)).setCell ⟨X, 3, none⟩ (.bool x3)).setCell ⟨X, 4, none⟩ (.int .i64 x4)).setCell ⟨X, 5, none⟩ (.int .i64 x5)).setCell ⟨X, 6, none⟩ (.int .i64 x6)).setCell ⟨X, 7, none⟩ (.int .i64 x7)).setCell ⟨X, 8, none⟩ (.int .i64 x8)).setCell ⟨X, 9, none⟩ (.slice qa yn qc)).setCell ⟨X, 10, none⟩ (.slice ua zn uc)) (some X) := set11 _ X _ _ _ _ _ _ _ _ _ _ _
      have HOz := hide ((HO7.out.gr2 hGN (own_ne HO7.out HX7.out (by decide))).low (show X ≤ W2.heap.size by omega))
      have HQz := hide ((HQ7.out.gr2 hGN (own_ne HQ7.out HX7.out (by decide))).low (show X ≤ W2.heap.size by omega))
      have HBz := hide ((HB2.out.trans (below_grown (show X ≤ g by omega) (show X ≤ W2.heap.size by omega) HD7.out.2.2.1)).trans (below_grown (Nat.le_refl X) (by have := HX7.out.lt; omega) hGN))
      clear hGN
      go_wp2_with fail
      subst hX
      exact bodyPost_ret (v := .agg #[.int .i64 x0, .int .i64 x1, .bool x2, .bool x3, .int .i64 x4, .int .i64 x5, .int .i64 x6, .int .i64 x7, .int .i64 x8, .slice qa yn qc, .slice ua zn uc]) (by simp [results, Tryz.results15, go_sem, hr0, hr1, hr2, hr3, hr4, hr5, hr6, hr7, hr8, hr9, hr10]) rfl ⟨_, rfl, ⟨_, _, _, _, _, _, _, _, _, _, _, ys, z, rfl, by have := HYL.out; have := HYN.out; omega, by have := HZL.out; have := HZN.out; omega, HQz.out, HOz.out, HAP.out⟩, HBz.out⟩
end Go.Proofs.YthbkhfiadkookaaGreatDoor
