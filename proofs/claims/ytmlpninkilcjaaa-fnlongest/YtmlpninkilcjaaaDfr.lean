/-
Contracts of functions of this seat.
-/
import Derived.Test.YtmlpninkilcjaaaRows
import Derived.WalkKit
import Derived.ProofKit
import Derived.OpenShut
import Derived.Test.YtmlpninkilcjaaaDr8
namespace Go.Proofs.Ytmlpninkilcjaaa
open Go.ChangeShapes Go.WideShapes Go.ChangeAt Go.RowKit
set_option linter.unusedVariables false
set_option maxRecDepth 100000
theorem srcA_new8 {w : World} {t n cap : Nat} {a : Option Addr} {st : Int} (h0 : 0 ≤ st) (h1 : st ≤ 18446744073709551615) :
    SrcA (w.alloc (.cells #[.slice a n cap, .int .i64 0, .int .u64 st] t)) w.heap.size t n a cap :=
  ⟨0, st, heap_alloc_new w _, Int.le_refl _, by omega, h0, h1⟩
theorem DSr.five {w0 W : World} {g cap p off : Nat} {a : Option Addr} {zs : List Int} (h : DSr w0 W g a cap zs) (harr : Arr w0 a zs) (hsrc : SrcA w0 g srT zs.length a cap) (hp : w0.heap.size ≤ p) (hg : g ≠ p) (y0 y1 y2 y3 y4 : Int) : DSr w0 (((((W.setCell ⟨p, off, none⟩ (.int .i64 y0)).setCell ⟨p, off + 1, none⟩ (.int .i64 y1)).setCell ⟨p, off + 2, none⟩ (.int .i64 y2)).setCell ⟨p, off + 3, none⟩ (.int .i64 y3)).setCell ⟨p, off + 4, none⟩ (.int .i64 y4)) g a cap zs := by
  have h1 := grown_set (grown_set (grown_set (grown_set (grown_set h.2.2.1 (p := ⟨p, off, none⟩) hp (.int .i64 y0)) (p := ⟨p, off + 1, none⟩) hp (.int .i64 y1)) (p := ⟨p, off + 2, none⟩) hp (.int .i64 y2)) (p := ⟨p, off + 3, none⟩) hp (.int .i64 y3)) (p := ⟨p, off + 4, none⟩) hp (.int .i64 y4)
  exact ⟨harr.srcA hsrc h1, ((((h.2.1.set (p := ⟨p, off, none⟩) hg _).set (p := ⟨p, off + 1, none⟩) hg _).set (p := ⟨p, off + 2, none⟩) hg _).set (p := ⟨p, off + 3, none⟩) hg _).set (p := ⟨p, off + 4, none⟩) hg _, h1, h.2.2.2⟩
theorem OwnI.gr {W W' : World} {B e k n g : Nat} {v : Value} {ys : List Int} (h : OwnI W B e k v n ys) (hg : W.grownBy W' (some g)) (hB : g < B) : OwnI W' B e k v n ys :=
  h.kept hg (by
    by_cases e : v.ownBlock = none
    · exact .inl e
    · refine .inr (fun e2 => ?_)
      have := (ownsAt.lt h g e2).1
      omega)
theorem OwnI.five {W : World} {B e n g off cap : Nat} {ys : List Int} (h : OwnI W B e 5 (.slice (some ⟨g, off, none⟩) n cap) n ys) (y0 y1 y2 y3 y4 : Int) : ∃ ys', OwnI (((((W.setCell ⟨g, off, none⟩ (.int .i64 y0)).setCell ⟨g, off + 1, none⟩ (.int .i64 y1)).setCell ⟨g, off + 2, none⟩ (.int .i64 y2)).setCell ⟨g, off + 3, none⟩ (.int .i64 y3)).setCell ⟨g, off + 4, none⟩ (.int .i64 y4)) B e 5 (.slice (some ⟨g, off, none⟩) n cap) n ys' :=
  ⟨_, ((((((((h.store 0 y0).1).store 1 y1).1).store 2 y2).1).store 3 y3).1.store 4 y4).1⟩
set_option maxHeartbeats 8000000 in
theorem drawFind_walk (a : Option Addr) (n cap : Nat) (zs : List Int) (w : World) (hn : zs.length = n) (ha : Arr w a zs) (hm : n ≤ 1048576) :
    Calls Try.prog 12 #[.slice a n cap] w fun e w' => ∃ gg off cap2 k ys d, e = .returned (.tuple #[.slice (some ⟨gg, off, none⟩) k cap2, .int .i64 d]) ∧ OwnI w' w.heap.size rtT8 5 (.slice (some ⟨gg, off, none⟩) k cap2) k ys ∧ k ≤ 12 ∧ Below w.heap.size w w' := by
  subst hn
  go_enter Try.func12, Try.ntmps12
  go_wp2_with fail
  refine (l01Begin_walk _ _ _ zs _ rfl ha (by omega)).mono ?_
  rintro e w1 ⟨st, rfl, hs0, hs1, hb1⟩
  have hba := (Below.refl w1.heap.size w1).alloc (Nat.le_refl _) (.cells #[.slice a zs.length cap, .int .i64 0, .int .u64 st] srT)
  have HD0 := hide (DSr.start ((ha.below hb1 (Nat.le_refl _)).below hba (Nat.le_refl _)) (srcA_new8 (w := w1) (t := srT) (n := zs.length) (cap := cap) (a := a) hs0 hs1))
  have HB0 := hide (hb1.trans (hba.mono hb1.size))
  have hgw : w.heap.size ≤ w1.heap.size := hb1.size
  have hsz : (w1.alloc (.cells #[.slice a zs.length cap, .int .i64 0, .int .u64 st] srT)).heap.size = w1.heap.size + 1 := World.size_alloc _ _
  clear hb1 hba ha
  go_wp2_with fail
  generalize w1.alloc (.cells #[.slice a zs.length cap, .int .i64 0, .int .u64 st] 57) = W1 at *
  have HSZ := hide hsz
  clear hsz
  generalize w1.heap.size = g at *
  refine (l01Next_walk g 12 zs _ a cap HD0.out.1 HD0.out.2.1 (by omega) (by omega) (by omega)).mono ?_
  rintro e w2 ⟨q, rfl, q0, q1, hg1, hs1⟩
  obtain ⟨k, rfl⟩ := Int.eq_ofNat_of_zero_le q0
  have hk : k ≤ 12 := by omega
  have HD2 := hide (HD0.out.step hg1 hs1)
  have hgs : g < w2.heap.size := hs1.lt
  have HG2 : Hid (W1.grownBy w2 (some g)) := hide hg1
  clear hg1 hs1 q0 q1
  go_wp2_with fail
  refine (l08List_walk g k zs _ a cap HD2.out.1 HD2.out.2.1 (by omega) (by omega)).mono ?_
  rintro e w3 ⟨v, ys, rfl, hvn, hown, hg1, hs1⟩
  have HD3 := hide (HD2.out.step hg1 hs1)
  have HO3 : Hid (OwnI w3 (g + 1) rtT8 5 v k ys) := hide (OwnI.mono (ownsAt.of_row hown) (by omega))
  have HFin : Hid (∀ (W : World) (ys : List Int) (v : Value), W1.grownBy W (some g) → OwnI W (g + 1) rtT8 5 v k ys → OwnI W w.heap.size rtT8 5 v k ys ∧ Below w.heap.size w W) := hide (fun W ys v hg h => ⟨h.mono (by omega), HB0.out.trans (below_grown hgw HB0.out.size hg)⟩)
  clear hg1 hs1 hown
  rcases HO3.out.form with ⟨rfl, hk0⟩ | ⟨gg, off, cap2, rfl, hBg, hgl, hkc⟩
  · exact absurd rfl hvn
  · clear hvn
    by_cases hk0 : k = 0
    · subst hk0
      go_wp2_with fail
      refine (l02Addr_walk g zs _ a cap HD3.out.1 HD3.out.2.1 (by omega)).mono ?_
      rintro e w7 ⟨d, rfl, _, _, hg1, hs1⟩
      have HD7 := hide (HD3.out.step hg1 hs1)
      have HO7 := hide (HO3.out.gr hg1 (show g < g + 1 by omega))
      clear hg1 hs1
      go_wp2_with fail
      refine (l01Bool_walk g zs _ a cap HD7.out.1 HD7.out.2.1 (by omega)).mono ?_
      rintro e w8 ⟨q2, rfl, hg1, hs1⟩
      have HD8 := hide (HD7.out.step hg1 hs1)
      have HO8 := hide (HO7.out.gr hg1 (show g < g + 1 by omega))
      clear hg1 hs1
      by_cases hq2 : q2 = 0
      · have hqb : (q2 == 0) = true := by simp [hq2]
        rw [hqb]
        clear hqb hq2
        go_wp2_with fail
        refine (l02Host_walk g zs _ a cap HD8.out.1 HD8.out.2.1 (by omega)).mono ?_
        rintro e w9 ⟨d2, rfl, _, _, hg1, hs1⟩
        have HD9 := hide (HD8.out.step hg1 hs1)
        have HO9 := hide (HO8.out.gr hg1 (show g < g + 1 by omega))
        clear hg1 hs1
        go_wp2_with fail
        go_ret2
        have hf := HFin.out _ _ _ HD9.out.2.2.1 HO9.out
        exact ⟨_, _, _, _, _, d2, rfl, hf.1, hk, hf.2⟩
      · have hqb : (q2 == 0) = false := by simp [hq2]
        rw [hqb]
        clear hqb hq2
        go_wp2_with fail
        go_ret2
        have hf := HFin.out _ _ _ HD8.out.2.2.1 HO8.out
        exact ⟨_, _, _, _, _, d, rfl, hf.1, hk, hf.2⟩
    · have hkp : (0 : Int) < (k : Int) := by omega
      have hkp2 : 0 < k := by omega
      go_wp2_with fail
      refine (l01Next_walk g 4 zs _ a cap HD3.out.1 HD3.out.2.1 (by omega) (by omega) (by omega)).mono ?_
      rintro e w4 ⟨q, rfl, _, _, hg1, hs1⟩
      have HD4 := hide (HD3.out.step hg1 hs1)
      have HO4 := hide (HO3.out.gr hg1 (show g < g + 1 by omega))
      clear hg1 hs1
      by_cases hq : q = 0
      · have hqb : (q == 0) = true := by simp [hq]
        clear hq
        have hlen : ys.length = k * 5 := HO4.out.len
        have c0 : w4.cell? ⟨gg, off, none⟩ = some (.int .i64 (ys.getD 0 0)) := HO4.out.cell 0 (by omega)
        have c1 : w4.cell? ⟨gg, off + 1, none⟩ = some (.int .i64 (ys.getD 1 0)) := HO4.out.cell 1 (by omega)
        have c2 : w4.cell? ⟨gg, off + 2, none⟩ = some (.int .i64 (ys.getD 2 0)) := HO4.out.cell 2 (by omega)
        have c3 : w4.cell? ⟨gg, off + 3, none⟩ = some (.int .i64 (ys.getD 3 0)) := HO4.out.cell 3 (by omega)
        have c4 : w4.cell? ⟨gg, off + 4, none⟩ = some (.int .i64 (ys.getD 4 0)) := HO4.out.cell 4 (by omega)
        clear hlen
        generalize ys.getD 0 0 = x0 at *
        generalize ys.getD 1 0 = x1 at *
        generalize ys.getD 2 0 = x2 at *
        generalize ys.getD 3 0 = x3 at *
        generalize ys.getD 4 0 = x4 at *
        go_wp2_with fail
        refine (l08Bend_walk g zs _ a cap _ _ _ _ _ HD4.out.1 HD4.out.2.1 (by omega)).mono ?_
        rintro e w5 ⟨y0, y1, y2, y3, y4, rfl, hg1, hs1⟩
        have HD5 := hide (HD4.out.step hg1 hs1)
        have HO5 := hide (HO4.out.gr hg1 (show g < g + 1 by omega))
        clear hg1 hs1 c0 c1 c2 c3 c4
        have hlen : ys.length = k * 5 := HO5.out.len
        have c0 : w5.cell? ⟨gg, off, none⟩ = some (.int .i64 (ys.getD 0 0)) := HO5.out.cell 0 (by omega)
        have c1 : w5.cell? ⟨gg, off + 1, none⟩ = some (.int .i64 (ys.getD 1 0)) := HO5.out.cell 1 (by omega)
        have c2 : w5.cell? ⟨gg, off + 2, none⟩ = some (.int .i64 (ys.getD 2 0)) := HO5.out.cell 2 (by omega)
        have c3 : w5.cell? ⟨gg, off + 3, none⟩ = some (.int .i64 (ys.getD 3 0)) := HO5.out.cell 3 (by omega)
        have c4 : w5.cell? ⟨gg, off + 4, none⟩ = some (.int .i64 (ys.getD 4 0)) := HO5.out.cell 4 (by omega)
        have cf : ∀ q, w5.frozen? ⟨gg, q, none⟩ = false := HO5.out.frozen
        clear hlen
        generalize ys.getD 0 0 = x0 at *
        generalize ys.getD 1 0 = x1 at *
        generalize ys.getD 2 0 = x2 at *
        generalize ys.getD 3 0 = x3 at *
        generalize ys.getD 4 0 = x4 at *
        obtain ⟨ys6, ho6⟩ := HO5.out.five y0 y1 y2 y3 y4
        have HO6 := hide ho6
        have HD6 := hide (HD5.out.five (p := gg) (off := off) HD0.out.1 HD0.out.2.1 (by rw [HSZ.out]; omega) (by omega) y0 y1 y2 y3 y4)
        clear ho6
        go_wp2_with fail
        clear c0 c1 c2 c3 c4 cf
        generalize (((((w5.setCell ⟨gg, off, none⟩ (.int .i64 y0)).setCell ⟨gg, off + 1, none⟩ (.int .i64 y1)).setCell ⟨gg, off + 2, none⟩ (.int .i64 y2)).setCell ⟨gg, off + 3, none⟩ (.int .i64 y3)).setCell ⟨gg, off + 4, none⟩ (.int .i64 y4)) = W6 at *
        refine (l02Addr_walk g zs _ a cap HD6.out.1 HD6.out.2.1 (by omega)).mono ?_
        rintro e w7 ⟨d, rfl, _, _, hg1, hs1⟩
        have HD7 := hide (HD6.out.step hg1 hs1)
        have HO7 := hide (HO6.out.gr hg1 (show g < g + 1 by omega))
        clear hg1 hs1
        go_wp2_with fail
        refine (l01Bool_walk g zs _ a cap HD7.out.1 HD7.out.2.1 (by omega)).mono ?_
        rintro e w8 ⟨q2, rfl, hg1, hs1⟩
        have HD8 := hide (HD7.out.step hg1 hs1)
        have HO8 := hide (HO7.out.gr hg1 (show g < g + 1 by omega))
        clear hg1 hs1
        by_cases hq2 : q2 = 0
        · have hqb : (q2 == 0) = true := by simp [hq2]
          rw [hqb]
          clear hqb hq2
          go_wp2_with fail
          refine (l02Host_walk g zs _ a cap HD8.out.1 HD8.out.2.1 (by omega)).mono ?_
          rintro e w9 ⟨d2, rfl, _, _, hg1, hs1⟩
          have HD9 := hide (HD8.out.step hg1 hs1)
          have HO9 := hide (HO8.out.gr hg1 (show g < g + 1 by omega))
          clear hg1 hs1
          go_wp2_with fail
          go_ret2
          have hf := HFin.out _ _ _ HD9.out.2.2.1 HO9.out
          exact ⟨_, _, _, _, _, d2, rfl, hf.1, hk, hf.2⟩
        · have hqb : (q2 == 0) = false := by simp [hq2]
          rw [hqb]
          clear hqb hq2
          go_wp2_with fail
          go_ret2
          have hf := HFin.out _ _ _ HD8.out.2.2.1 HO8.out
          exact ⟨_, _, _, _, _, d, rfl, hf.1, hk, hf.2⟩
      · have hqb : (q == 0) = false := by simp [hq]
        clear hq
        go_wp2_with fail
        refine (l02Addr_walk g zs _ a cap HD4.out.1 HD4.out.2.1 (by omega)).mono ?_
        rintro e w7 ⟨d, rfl, _, _, hg1, hs1⟩
        have HD7 := hide (HD4.out.step hg1 hs1)
        have HO7 := hide (HO4.out.gr hg1 (show g < g + 1 by omega))
        clear hg1 hs1
        go_wp2_with fail
        refine (l01Bool_walk g zs _ a cap HD7.out.1 HD7.out.2.1 (by omega)).mono ?_
        rintro e w8 ⟨q2, rfl, hg1, hs1⟩
        have HD8 := hide (HD7.out.step hg1 hs1)
        have HO8 := hide (HO7.out.gr hg1 (show g < g + 1 by omega))
        clear hg1 hs1
        by_cases hq2 : q2 = 0
        · have hqb : (q2 == 0) = true := by simp [hq2]
          rw [hqb]
          clear hqb hq2
          go_wp2_with fail
          refine (l02Host_walk g zs _ a cap HD8.out.1 HD8.out.2.1 (by omega)).mono ?_
          rintro e w9 ⟨d2, rfl, _, _, hg1, hs1⟩
          have HD9 := hide (HD8.out.step hg1 hs1)
          have HO9 := hide (HO8.out.gr hg1 (show g < g + 1 by omega))
          clear hg1 hs1
          go_wp2_with fail
          go_ret2
          have hf := HFin.out _ _ _ HD9.out.2.2.1 HO9.out
          exact ⟨_, _, _, _, _, d2, rfl, hf.1, hk, hf.2⟩
        · have hqb : (q2 == 0) = false := by simp [hq2]
          rw [hqb]
          clear hqb hq2
          go_wp2_with fail
          go_ret2
          have hf := HFin.out _ _ _ HD8.out.2.2.1 HO8.out
          exact ⟨_, _, _, _, _, d, rfl, hf.1, hk, hf.2⟩
end Go.Proofs.Ytmlpninkilcjaaa
