/-
Contracts of functions of this seat.
-/
import Derived.Test.YtgegnkboibgbgaaRows
import Derived.WalkKit
import Derived.ProofKit
import Derived.OpenShut
import Derived.Test.YtgegnkboibgbgaaRk2
import Derived.Test.YtgegnkboibgbgaaRlx
namespace Go.Proofs.Ytgegnkboibgbgaa
open Go.ChangeShapes Go.WideShapes Go.ChangeAt Go.RowKit
set_option linter.unusedVariables false
set_option maxRecDepth 100000
def LR (w W : World) (rv : Array Value) : Prop := Below w.heap.size w W ∧ HoldV W w.heap.size #[.int .i64 0, .int .i64 0, .int .i64 0, .int .i64 0, .int .i64 0] 39 ∧ HoldV W (w.heap.size + 1) rv 39
theorem LR.next {w W W' : World} {rv : Array Value} (h : LR w W rv) (hb : Below W.heap.size W W') : LR w W' rv := ⟨h.1.trans (hb.mono h.1.size), h.2.1.next hb, h.2.2.next hb⟩
theorem LR.set {w W : World} {rv : Array Value} (h : LR w W rv) (i : Nat) (y : Value) : LR w (W.setCell ⟨w.heap.size + 1, i, none⟩ y) (rv.setIfInBounds i y) := by
  have hb : Below (w.heap.size + 1) W (W.setCell ⟨w.heap.size + 1, i, none⟩ y) := (Below.refl _ _).setCell (p := ⟨w.heap.size + 1, i, none⟩) (Nat.le_refl _) _
  exact ⟨h.1.setCell (p := ⟨w.heap.size + 1, i, none⟩) (Nat.le_succ _) _, h.2.1.below hb (Nat.lt_succ_self _), heap_setCell_same W (w.heap.size + 1) i _ _ y h.2.2⟩
/-- What is wanted of reading a route's words. -/
def LP (w : World) (ps : List (List UInt8)) (e : Ending) (w' : World) : Prop := ∃ r0 r1 r2 r3 r4 : Int, e = .returned (.tuple #[.agg #[.int .i64 r0, .int .i64 r1, .int .i64 r2, .int .i64 r3, .int .i64 r4], .bool (rtParse ps).isSome]) ∧ (∀ v, rtParse ps = some v → v = (r0, r1, r2, r3, r4)) ∧ Below w.heap.size w w'
theorem LR.fin {w W : World} {rv : Array Value} (h : LR w W rv) {v0 v1 v2 v3 v4 : Value} : Below w.heap.size w (((((W.setCell ⟨w.heap.size, 0, none⟩ v0).setCell ⟨w.heap.size, 1, none⟩ v1).setCell ⟨w.heap.size, 2, none⟩ v2).setCell ⟨w.heap.size, 3, none⟩ v3).setCell ⟨w.heap.size, 4, none⟩ v4) :=
  (((((h.1.setCell (p := ⟨w.heap.size, 0, none⟩) (Nat.le_refl _) _).setCell (p := ⟨w.heap.size, 1, none⟩) (Nat.le_refl _) _).setCell (p := ⟨w.heap.size, 2, none⟩) (Nat.le_refl _) _).setCell (p := ⟨w.heap.size, 3, none⟩) (Nat.le_refl _) _).setCell (p := ⟨w.heap.size, 4, none⟩) (Nat.le_refl _) _)
abbrev LS (w w' : World) (a b v l m : Int) : Prop := Below w.heap.size w w' ∧ w.heap.size + 1 < w'.heap.size ∧ w'.cell? ⟨w.heap.size + 1, 0, none⟩ = some (.int .i64 a) ∧ w'.cell? ⟨w.heap.size + 1, 1, none⟩ = some (.int .i64 b) ∧ w'.cell? ⟨w.heap.size + 1, 2, none⟩ = some (.int .i64 v) ∧ w'.cell? ⟨w.heap.size + 1, 3, none⟩ = some (.int .i64 l) ∧ w'.cell? ⟨w.heap.size + 1, 4, none⟩ = some (.int .i64 m)
theorem LS.of {w w' : World} {a b v l m : Int} (h : LR w w' #[.int .i64 a, .int .i64 b, .int .i64 v, .int .i64 l, .int .i64 m]) : LS w w' a b v l m := ⟨h.1, h.2.2.lt, h.2.2.cell 0 _ rfl, h.2.2.cell 1 _ rfl, h.2.2.cell 2 _ rfl, h.2.2.cell 3 _ rfl, h.2.2.cell 4 _ rfl⟩
theorem LS.next {w w' w'' : World} {a b v l m : Int} (h : LS w w' a b v l m) (hb : Below w'.heap.size w' w'') : LS w w'' a b v l m := by
  obtain ⟨h1, h2, c0, c1, c2, c3, c4⟩ := h
  exact ⟨h1.trans (hb.mono h1.size), Nat.lt_of_lt_of_le h2 hb.size, (hb.cell (p := ⟨w.heap.size + 1, 0, none⟩) h2).trans c0, (hb.cell (p := ⟨w.heap.size + 1, 1, none⟩) h2).trans c1, (hb.cell (p := ⟨w.heap.size + 1, 2, none⟩) h2).trans c2, (hb.cell (p := ⟨w.heap.size + 1, 3, none⟩) h2).trans c3, (hb.cell (p := ⟨w.heap.size + 1, 4, none⟩) h2).trans c4⟩
theorem LS.fin {w W : World} {a b v l m : Int} (h : LS w W a b v l m) {v0 v1 v2 v3 v4 : Value} : LS w (((((W.setCell ⟨w.heap.size, 0, none⟩ v0).setCell ⟨w.heap.size, 1, none⟩ v1).setCell ⟨w.heap.size, 2, none⟩ v2).setCell ⟨w.heap.size, 3, none⟩ v3).setCell ⟨w.heap.size, 4, none⟩ v4) a b v l m := by
  obtain ⟨h1, h2, c0, c1, c2, c3, c4⟩ := h
  have hne : w.heap.size ≠ w.heap.size + 1 := by omega
  exact ⟨(((((h1.setCell (p := ⟨w.heap.size, 0, none⟩) (Nat.le_refl _) _).setCell (p := ⟨w.heap.size, 1, none⟩) (Nat.le_refl _) _).setCell (p := ⟨w.heap.size, 2, none⟩) (Nat.le_refl _) _).setCell (p := ⟨w.heap.size, 3, none⟩) (Nat.le_refl _) _).setCell (p := ⟨w.heap.size, 4, none⟩) (Nat.le_refl _) _), by simp; exact h2, far5 hne c0, far5 hne c1, far5 hne c2, far5 hne c3, far5 hne c4⟩
set_option maxHeartbeats 16000000 in
theorem specRoute_walk (p : List UInt8) (r : List (List UInt8)) (b off n cap : Nat) (w : World) (hn : (p :: r).length = n) (ha : ArrS w (some ⟨b, off, none⟩) (p :: r)) (hc : n ≤ cap) (hw : ∀ q ∈ p :: r, q.length ≤ 1048576) :
    Calls Try.prog 16 #[.slice (some ⟨b, off, none⟩) n cap] w fun e w' => LP w (p :: r) e w' := by
  have HTW := hide (two_allocs w (.cells #[.int .i64 0, .int .i64 0, .int .i64 0, .int .i64 0, .int .i64 0] 39) (.cells #[.int .i64 0, .int .i64 0, .int .i64 0, .int .i64 0, .int .i64 0] 39))
  have HL0 : Hid (LR w ((w.alloc (.cells #[.int .i64 0, .int .i64 0, .int .i64 0, .int .i64 0, .int .i64 0] 39)).alloc (.cells #[.int .i64 0, .int .i64 0, .int .i64 0, .int .i64 0, .int .i64 0] 39)) #[.int .i64 0, .int .i64 0, .int .i64 0, .int .i64 0, .int .i64 0]) := hide HTW.out
  obtain ⟨b', o', e0, hbl, c0⟩ := ha 0 (by simp)
  cases e0
  have hn0 : 0 < n := by rw [← hn]; simp
  have HA := hide ha
  have HW := hide hw
  have HN := hide hn
  have cc0 : ((w.alloc (.cells #[.int .i64 0, .int .i64 0, .int .i64 0, .int .i64 0, .int .i64 0] 39)).alloc (.cells #[.int .i64 0, .int .i64 0, .int .i64 0, .int .i64 0, .int .i64 0] 39)).cell? ⟨b, off, none⟩ = some (.string (bs p)) := by rw [HL0.out.1.cell (p := ⟨b, off, none⟩) hbl]; exact c0
  obtain ⟨a1, hsl, ha1⟩ := sls_from b off n cap 1 (by omega) hc
  have hsl1 : ∀ w : World, (Instr.slice 35 (.slice (some ⟨b, off, none⟩) n cap) (some (.int .i64 1)) none none).run Try.prog w = .ok (.slice a1 (n - 1) (cap - 1)) w := hsl
  have HA1 : Hid (ArrS w a1 r) := hide (by
    by_cases h3 : 1 < cap
    · rw [ha1 h3]; exact ha.drop 1
    · have : r = [] := List.length_eq_zero_iff.1 (by simp at hn; omega)
      subst this
      intro j hj
      simp at hj)
  have HR1 : Hid (r.length = n - 1) := hide (by simp at hn; omega)
  clear ha hw hn c0 hsl ha1 HTW
  go_enter Try.func16, Try.ntmps16
  go_wp2_with fail
  generalize hV0 : (w.alloc (.cells #[.int .i64 0, .int .i64 0, .int .i64 0, .int .i64 0, .int .i64 0] 39)).alloc (.cells #[.int .i64 0, .int .i64 0, .int .i64 0, .int .i64 0, .int .i64 0] 39) = V0 at *
  clear hV0
  have HLV : Hid (LR w V0 #[.int .i64 0, .int .i64 0, .int .i64 0, .int .i64 0, .int .i64 0]) := HL0
  refine (specPref_walk p V0 (HW.out p (by simp))).mono ?_
  rintro e w1 ⟨rfl, hb1⟩
  have HL1 := hide ((HLV.out.next hb1).next ((Below.refl w1.heap.size w1).alloc (Nat.le_refl _) (.cells #[.int .i64 (pfA p), .int .i64 (pfB p)] 37)))
  have HX1 : Hid (HoldV (w1.alloc (.cells #[.int .i64 (pfA p), .int .i64 (pfB p)] 37)) w1.heap.size #[.int .i64 (pfA p), .int .i64 (pfB p)] 37) := hide (heap_alloc_new _ _)
  clear hb1 HLV HL0 cc0
  cases hp : pfOK p with
  | false =>
    have hC : pfC p = 6 := (pf_no hp).2.2
    have HP : Hid (rtParse (p :: r) = none) := hide (by unfold rtParse; simp [hp])
    rw [hC]
    clear hp hC HX1
    have c0 := HL1.out.2.1.cell 0 (.int .i64 0) rfl
    have c1 := HL1.out.2.1.cell 1 (.int .i64 0) rfl
    have c2 := HL1.out.2.1.cell 2 (.int .i64 0) rfl
    have c3 := HL1.out.2.1.cell 3 (.int .i64 0) rfl
    have c4 := HL1.out.2.1.cell 4 (.int .i64 0) rfl
    have cf := HL1.out.2.1.frozen
    have r0 := HL1.out.2.2.cell 0 (.int .i64 0) rfl
    have r1 := HL1.out.2.2.cell 1 (.int .i64 0) rfl
    have r2 := HL1.out.2.2.cell 2 (.int .i64 0) rfl
    have r3 := HL1.out.2.2.cell 3 (.int .i64 0) rfl
    have r4 := HL1.out.2.2.cell 4 (.int .i64 0) rfl
    have rf := HL1.out.2.2.frozen
    go_wp2_with fail
    exact bodyPost_ret (v := .tuple #[.agg #[.int .i64 0, .int .i64 0, .int .i64 0, .int .i64 0, .int .i64 0], .bool false]) (by simp [results, Try.results16, go_sem, c0, c1, c2, c3, c4]) rfl ⟨0, 0, 0, 0, 0, by rw [HP.out]; rfl, by rw [HP.out]; simp, HL1.out.fin⟩
  | true =>
    have hC : pfC p = 0 := by unfold pfC; rw [hp]; rfl
    have HPV : Hid (rtParse (p :: r) = rpVia (pfA p) (pfB p) r) := hide (by unfold rtParse; simp [hp])
    rw [hC]
    clear hp hC
    have r0 := HL1.out.2.2.cell 0 (.int .i64 0) rfl
    have r1 := HL1.out.2.2.cell 1 (.int .i64 0) rfl
    have r2 := HL1.out.2.2.cell 2 (.int .i64 0) rfl
    have r3 := HL1.out.2.2.cell 3 (.int .i64 0) rfl
    have r4 := HL1.out.2.2.cell 4 (.int .i64 0) rfl
    have rf := HL1.out.2.2.frozen
    have x0 := HX1.out.cell 0 (.int .i64 (pfA p)) rfl
    have x1 := HX1.out.cell 1 (.int .i64 (pfB p)) rfl
    generalize pfA p = A at *
    generalize pfB p = B at *
    have HL2 := hide ((HL1.out.set 0 (.int .i64 A)).set 1 (.int .i64 B))
    have HWR : Hid (∀ q ∈ r, q.length ≤ 1048576) := hide (fun q hq => HW.out q (by simp [hq]))
    have HAR := HA1
    have hcr : n - 1 ≤ cap - 1 := by omega
    clear HX1 HL1 HW HA HN HA1
    have K3 := hide (key_walk2 w kVia r a1 (n - 1) (cap - 1) (((w1.alloc (.cells #[.int .i64 A, .int .i64 B] 37)).setCell ⟨w.heap.size + 1, 0, none⟩ (.int .i64 A)).setCell ⟨w.heap.size + 1, 1, none⟩ (.int .i64 B)) HR1.out HAR.out HL2.out.1 hcr)
    go_wp2_with fail
    refine K3.out.mono ?_
    rintro e u3 ⟨hk, hb⟩
    have H3 := hide (LR.next (show LR w (((w1.alloc (.cells #[.int .i64 A, .int .i64 B] 37)).setCell ⟨w.heap.size + 1, 0, none⟩ (.int .i64 A)).setCell ⟨w.heap.size + 1, 1, none⟩ (.int .i64 B)) #[.int .i64 A, .int .i64 B, .int .i64 0, .int .i64 0, .int .i64 0] from HL2.out) hb)
    clear r0 r1 r2 r3 r4 rf
    rcases hk with ⟨hk, rfl⟩ | ⟨y3, R3, a3, hk, rfl, har, hrl⟩
    · have HK := hide hk
      clear hk hb K3
      have HQ1 : Hid (rtParse (p :: r) = rpLink A B 0 r) := hide (by rw [HPV.out]; unfold rpVia; rw [HK.out])
      clear HK
      have K4 := hide (key_walk2 w kLink r a1 (n - 1) (cap - 1) u3 HR1.out HAR.out H3.out.1 hcr)
      go_wp2_with fail
      refine K4.out.mono ?_
      rintro e u4 ⟨hk, hb⟩
      have H4 := hide (LR.next (show LR w u3 #[.int .i64 A, .int .i64 B, .int .i64 0, .int .i64 0, .int .i64 0] from H3.out) hb)
      rcases hk with ⟨hk, rfl⟩ | ⟨y4, R4, a4, hk, rfl, har, hrl⟩
      · have HK := hide hk
        clear hk hb K4
        have HP : Hid (rtParse (p :: r) = none) := hide (by rw [HQ1.out]; unfold rpLink; rw [HK.out])
        go_wp2_with fail
        refine (numberG_walk [] 7 u4 (by simp) (by omega)).mono ?_
        rintro e u5 ⟨nn, rfl, hnn, hb⟩
        have H5 := hide (H4.out.next hb)
        clear hb
        clear hnn
        have c0 := H5.out.2.1.cell 0 (.int .i64 0) rfl
        have c1 := H5.out.2.1.cell 1 (.int .i64 0) rfl
        have c2 := H5.out.2.1.cell 2 (.int .i64 0) rfl
        have c3 := H5.out.2.1.cell 3 (.int .i64 0) rfl
        have c4 := H5.out.2.1.cell 4 (.int .i64 0) rfl
        have cf := H5.out.2.1.frozen
        have r0 := H5.out.2.2.cell 0 (.int .i64 A) rfl
        have r1 := H5.out.2.2.cell 1 (.int .i64 B) rfl
        have r2 := H5.out.2.2.cell 2 (.int .i64 0) rfl
        have r3 := H5.out.2.2.cell 3 (.int .i64 0) rfl
        have r4 := H5.out.2.2.cell 4 (.int .i64 0) rfl
        have rf := H5.out.2.2.frozen
        go_wp2_with fail
        exact bodyPost_ret (v := .tuple #[.agg #[.int .i64 A, .int .i64 B, .int .i64 0, .int .i64 0, .int .i64 0], .bool false]) (by simp [results, Try.results16, go_sem, c0, c1, c2, c3, c4]) rfl ⟨A, B, 0, 0, 0, by rw [HP.out]; rfl, by rw [HP.out]; simp, H5.out.fin⟩
      · have HK := hide hk
        have HY4 : Hid (y4.length ≤ 1048576) := hide (HWR.out _ (keyT_mem hk).1)
        have HWR4 : Hid (∀ q ∈ R4, q.length ≤ 1048576) := hide (fun q hq => HWR.out q ((keyT_mem hk).2 q hq))
        have HAR4 := hide har
        have HR4 := hide hrl
        have hc4 : (n - 1) - 2 ≤ (cap - 1) - 2 := by omega
        clear hk hb har hrl K4
        go_wp2_with fail
        refine (numberG_walk y4 7 u4 HY4.out (by omega)).mono ?_
        rintro e u6 ⟨nn, rfl, hnn, hb⟩
        have H6 := hide (H4.out.next hb)
        clear hb
        cases hf : numF y4 7 with
        | false =>
          have HP : Hid (rtParse (p :: r) = none) := hide (by rw [HQ1.out]; unfold rpLink; rw [HK.out]; simp [hf])
          clear hnn hf
          have c0 := H6.out.2.1.cell 0 (.int .i64 0) rfl
          have c1 := H6.out.2.1.cell 1 (.int .i64 0) rfl
          have c2 := H6.out.2.1.cell 2 (.int .i64 0) rfl
          have c3 := H6.out.2.1.cell 3 (.int .i64 0) rfl
          have c4 := H6.out.2.1.cell 4 (.int .i64 0) rfl
          have cf := H6.out.2.1.frozen
          have r0 := H6.out.2.2.cell 0 (.int .i64 A) rfl
          have r1 := H6.out.2.2.cell 1 (.int .i64 B) rfl
          have r2 := H6.out.2.2.cell 2 (.int .i64 0) rfl
          have r3 := H6.out.2.2.cell 3 (.int .i64 0) rfl
          have r4 := H6.out.2.2.cell 4 (.int .i64 0) rfl
          have rf := H6.out.2.2.frozen
          go_wp2_with fail
          exact bodyPost_ret (v := .tuple #[.agg #[.int .i64 A, .int .i64 B, .int .i64 0, .int .i64 0, .int .i64 0], .bool false]) (by simp [results, Try.results16, go_sem, c0, c1, c2, c3, c4]) rfl ⟨A, B, 0, 0, 0, by rw [HP.out]; rfl, by rw [HP.out]; simp, H6.out.fin⟩
        | true =>
          have HQL : Hid (rtParse (p :: r) = rpMet A B 0 (numV y4) R4) := hide (by rw [HQ1.out]; unfold rpLink; rw [HK.out]; simp [hf])
          rw [hnn hf]
          clear hnn hf HK
          generalize numV y4 = L at *
          have r0 := H6.out.2.2.cell 0 (.int .i64 A) rfl
          have r1 := H6.out.2.2.cell 1 (.int .i64 B) rfl
          have r2 := H6.out.2.2.cell 2 (.int .i64 0) rfl
          have r3 := H6.out.2.2.cell 3 (.int .i64 0) rfl
          have r4 := H6.out.2.2.cell 4 (.int .i64 0) rfl
          have rf := H6.out.2.2.frozen
          have HSL := hide (H6.out.set 3 (.int .i64 L))
          have K7 := hide (key_walk2 w kMetric R4 a4 ((n - 1) - 2) ((cap - 1) - 2) (u6.setCell ⟨w.heap.size + 1, 3, none⟩ (.int .i64 L)) HR4.out HAR4.out HSL.out.1 hc4)
          go_wp2_with fail
          refine K7.out.mono ?_
          rintro e u7 ⟨hk, hb⟩
          have H7 := hide (LR.next (show LR w (u6.setCell ⟨w.heap.size + 1, 3, none⟩ (.int .i64 L)) #[.int .i64 A, .int .i64 B, .int .i64 0, .int .i64 L, .int .i64 0] from HSL.out) hb)
          clear r0 r1 r2 r3 r4 rf
          rcases hk with ⟨hk, rfl⟩ | ⟨y7, R7, a7, hk, rfl, har, hrl⟩
          · have HK := hide hk
            clear hk hb K7
            have HQE : Hid (rtParse (p :: r) = rpEnd A B 0 L 0 R4) := hide (by rw [HQL.out]; unfold rpMet; rw [HK.out])
            generalize hnX : ((n - 1) - 2) = nX at *
            have HLX : Hid (LR w u7 #[.int .i64 A, .int .i64 B, .int .i64 0, .int .i64 L, .int .i64 0]) := H7
            have HRX : Hid (R4.length = nX) := HR4
            go_wp2_with fail
            generalize u7 = WF at *
            have hL := HLX.out.next ((Below.refl _ _).drew)
            have hK : LS w WF.drew A B 0 L 0 := LS.of hL
            by_cases hz : nX = 0
            · subst hz
              have HI : Hid ((rtParse (p :: r)).isSome = rtOK A B 0 L 0) := hide (by rw [HQE.out]; unfold rpEnd; rw [HRX.out]; cases rtOK A B 0 L 0 <;> rfl)
              have HV : Hid (∀ v, rtParse (p :: r) = some v → v = (A, B, 0, L, 0)) := hide (by
                rw [HQE.out]; unfold rpEnd
                intro v hv
                split at hv
                · cases hv; rfl
                · cases hv)
              have CR := hide (fun W => specROK_walk A B 0 L 0 W)
              generalize rtOK A B 0 L 0 = bq at *
              refine wp_region_lex (fun w' => LS w w' A B 0 L 0) ((0, true) :: (1, true) :: (2, true) :: (3, true) :: (4, true) :: (5, true) :: (6, false) :: (7, true) :: (8, false) :: (9, true) :: []) (by kernel_rfl) (by kernel_rfl) (by kernel_rfl) rfl hK ?_
              repeat (first
                | (refine wpLex_skip rfl (by rfl) (fun _ _ _ h => h) ?_; simp only [Act.put, List.setIfInBounds_toArray, List.set_cons_zero, List.set_cons_succ])
                | (refine wpLex_pass rfl (by rfl) hK ?_; simp only [Act.put, List.setIfInBounds_toArray, List.set_cons_zero, List.set_cons_succ])
                | (refine wpLex_take ?_ rfl (by rfl) (fun _ _ _ h => h) ?_ ?_; rotate_left; (intro wq hSw; (try dsimp only at hSw); first | (go_simp; done) | (go_simp; with_reducible rfl)); simp only [Act.put, List.setIfInBounds_toArray, List.set_cons_zero, List.set_cons_succ])
                | (refine wpLex_act rfl (by rfl) ?_; intro KK hKK; go_simp; (go_at_call 29; refine (CR.out _).mono ?_; clear CR; rintro e w9 ⟨rfl, hb9⟩; have hK := LS.next hK hb9; replace hL := hL.next hb9); (try go_wp2_with fail); refine hKK.out _ _ hK ?_; clear hKK KK; try simp only [Act.put, List.setIfInBounds_toArray, List.set_cons_zero, List.set_cons_succ])
                | (refine wpLex_act rfl (by rfl) ?_; intro KK hKK; have c0 := hL.2.1.cell 0 (.int .i64 0) rfl; have c1 := hL.2.1.cell 1 (.int .i64 0) rfl; have c2 := hL.2.1.cell 2 (.int .i64 0) rfl; have c3 := hL.2.1.cell 3 (.int .i64 0) rfl; have c4 := hL.2.1.cell 4 (.int .i64 0) rfl; have cf := hL.2.1.frozen; go_simp; refine hKK.out _ _ (LS.fin hK) ?_; clear hKK KK; try simp only [Act.put, List.setIfInBounds_toArray, List.set_cons_zero, List.set_cons_succ]))
              refine wpLex_nil ?_
              go_wp2_with fail
              exact bodyPost_ret (v := .tuple #[.agg #[.int .i64 A, .int .i64 B, .int .i64 0, .int .i64 L, .int .i64 0], .bool bq]) (by simp [results, Try.results16, go_sem, c0, c1, c2, c3, c4]) rfl ⟨A, B, 0, L, 0, by rw [HI.out], HV.out, hL.fin⟩
            · have hz1 : ((nX : Int) == 0) = false := by simp; omega
              have HI : Hid ((rtParse (p :: r)).isSome = false) := hide (by rw [HQE.out]; unfold rpEnd; rw [HRX.out, if_neg (fun h => hz h.1)]; rfl)
              have HV : Hid (∀ v, rtParse (p :: r) = some v → v = (A, B, 0, L, 0)) := hide (fun v hv => by have h := HI.out; rw [hv] at h; cases h)
              clear hz
              refine wp_region_lex (fun w' => LS w w' A B 0 L 0) ((0, true) :: (1, true) :: (2, true) :: (3, true) :: (4, true) :: (5, true) :: (6, false) :: (7, true) :: (8, false) :: (9, true) :: []) (by kernel_rfl) (by kernel_rfl) (by kernel_rfl) rfl hK ?_
              repeat (first
                | (refine wpLex_skip rfl (by rfl) (fun _ _ _ h => h) ?_; simp only [Act.put, List.setIfInBounds_toArray, List.set_cons_zero, List.set_cons_succ])
                | (refine wpLex_pass rfl (by rfl) hK ?_; simp only [Act.put, List.setIfInBounds_toArray, List.set_cons_zero, List.set_cons_succ])
                | (refine wpLex_take ?_ rfl (by rfl) (fun _ _ _ h => h) ?_ ?_; rotate_left; (intro wq hSw; (try dsimp only at hSw); first | (go_simp; done) | (go_simp; with_reducible rfl)); simp only [Act.put, List.setIfInBounds_toArray, List.set_cons_zero, List.set_cons_succ])
                | (refine wpLex_act rfl (by rfl) ?_; intro KK hKK; go_simp; (go_at_call 29; refine (CR.out _).mono ?_; clear CR; rintro e w9 ⟨rfl, hb9⟩; have hK := LS.next hK hb9; replace hL := hL.next hb9); (try go_wp2_with fail); refine hKK.out _ _ hK ?_; clear hKK KK; try simp only [Act.put, List.setIfInBounds_toArray, List.set_cons_zero, List.set_cons_succ])
                | (refine wpLex_act rfl (by rfl) ?_; intro KK hKK; have c0 := HLX.out.2.1.cell 0 (.int .i64 0) rfl; have c1 := HLX.out.2.1.cell 1 (.int .i64 0) rfl; have c2 := HLX.out.2.1.cell 2 (.int .i64 0) rfl; have c3 := HLX.out.2.1.cell 3 (.int .i64 0) rfl; have c4 := HLX.out.2.1.cell 4 (.int .i64 0) rfl; have cf := HLX.out.2.1.frozen; go_simp; refine hKK.out _ _ (LS.fin hK) ?_; clear hKK KK; try simp only [Act.put, List.setIfInBounds_toArray, List.set_cons_zero, List.set_cons_succ]))
              refine wpLex_nil ?_
              go_wp2_with fail
              exact bodyPost_ret (v := .tuple #[.agg #[.int .i64 A, .int .i64 B, .int .i64 0, .int .i64 L, .int .i64 0], .bool false]) (by simp [results, Try.results16, go_sem, c0, c1, c2, c3, c4]) rfl ⟨A, B, 0, L, 0, by rw [HI.out], HV.out, hL.fin⟩
          · have HK := hide hk
            have HY7 : Hid (y7.length ≤ 1048576) := hide (HWR4.out _ (keyT_mem hk).1)
            have HWR7 : Hid (∀ q ∈ R7, q.length ≤ 1048576) := hide (fun q hq => HWR4.out q ((keyT_mem hk).2 q hq))
            have HAR7 := hide har
            have HR7 := hide hrl
            have hc7 : ((n - 1) - 2) - 2 ≤ ((cap - 1) - 2) - 2 := by omega
            clear hk hb har hrl K7
            go_wp2_with fail
            refine (numberG_walk y7 7 u7 HY7.out (by omega)).mono ?_
            rintro e u8 ⟨nn, rfl, hnn, hb⟩
            have H8 := hide (H7.out.next hb)
            clear hb
            cases hf : numF y7 7 with
            | false =>
              have HP : Hid (rtParse (p :: r) = none) := hide (by rw [HQL.out]; unfold rpMet; rw [HK.out]; simp [hf])
              clear hnn hf
              have c0 := H8.out.2.1.cell 0 (.int .i64 0) rfl
              have c1 := H8.out.2.1.cell 1 (.int .i64 0) rfl
              have c2 := H8.out.2.1.cell 2 (.int .i64 0) rfl
              have c3 := H8.out.2.1.cell 3 (.int .i64 0) rfl
              have c4 := H8.out.2.1.cell 4 (.int .i64 0) rfl
              have cf := H8.out.2.1.frozen
              have r0 := H8.out.2.2.cell 0 (.int .i64 A) rfl
              have r1 := H8.out.2.2.cell 1 (.int .i64 B) rfl
              have r2 := H8.out.2.2.cell 2 (.int .i64 0) rfl
              have r3 := H8.out.2.2.cell 3 (.int .i64 L) rfl
              have r4 := H8.out.2.2.cell 4 (.int .i64 0) rfl
              have rf := H8.out.2.2.frozen
              go_wp2_with fail
              exact bodyPost_ret (v := .tuple #[.agg #[.int .i64 A, .int .i64 B, .int .i64 0, .int .i64 L, .int .i64 0], .bool false]) (by simp [results, Try.results16, go_sem, c0, c1, c2, c3, c4]) rfl ⟨A, B, 0, L, 0, by rw [HP.out]; rfl, by rw [HP.out]; simp, H8.out.fin⟩
            | true =>
              have HQE : Hid (rtParse (p :: r) = rpEnd A B 0 L (numV y7) R7) := hide (by rw [HQL.out]; unfold rpMet; rw [HK.out]; simp [hf])
              rw [hnn hf]
              clear hnn hf HK
              generalize numV y7 = M at *
              have r0 := H8.out.2.2.cell 0 (.int .i64 A) rfl
              have r1 := H8.out.2.2.cell 1 (.int .i64 B) rfl
              have r2 := H8.out.2.2.cell 2 (.int .i64 0) rfl
              have r3 := H8.out.2.2.cell 3 (.int .i64 L) rfl
              have r4 := H8.out.2.2.cell 4 (.int .i64 0) rfl
              have rf := H8.out.2.2.frozen
              have HSM := hide (H8.out.set 4 (.int .i64 M))
              generalize hnX : (((n - 1) - 2) - 2) = nX at *
              have HLX : Hid (LR w (u8.setCell ⟨w.heap.size + 1, 4, none⟩ (.int .i64 M)) #[.int .i64 A, .int .i64 B, .int .i64 0, .int .i64 L, .int .i64 M]) := HSM
              have HRX : Hid (R7.length = nX) := HR7
              go_wp2_with fail
              clear r0 r1 r2 r3 r4 rf
              generalize (u8.setCell ⟨w.heap.size + 1, 4, none⟩ (.int .i64 M)) = WF at *
              have hL := HLX.out.next ((Below.refl _ _).drew)
              have hK : LS w WF.drew A B 0 L M := LS.of hL
              by_cases hz : nX = 0
              · subst hz
                have HI : Hid ((rtParse (p :: r)).isSome = rtOK A B 0 L M) := hide (by rw [HQE.out]; unfold rpEnd; rw [HRX.out]; cases rtOK A B 0 L M <;> rfl)
                have HV : Hid (∀ v, rtParse (p :: r) = some v → v = (A, B, 0, L, M)) := hide (by
                  rw [HQE.out]; unfold rpEnd
                  intro v hv
                  split at hv
                  · cases hv; rfl
                  · cases hv)
                have CR := hide (fun W => specROK_walk A B 0 L M W)
                generalize rtOK A B 0 L M = bq at *
                refine wp_region_lex (fun w' => LS w w' A B 0 L M) ((0, true) :: (1, true) :: (2, true) :: (3, true) :: (4, true) :: (5, true) :: (6, false) :: (7, true) :: (8, false) :: (9, true) :: []) (by kernel_rfl) (by kernel_rfl) (by kernel_rfl) rfl hK ?_
                repeat (first
                  | (refine wpLex_skip rfl (by rfl) (fun _ _ _ h => h) ?_; simp only [Act.put, List.setIfInBounds_toArray, List.set_cons_zero, List.set_cons_succ])
                  | (refine wpLex_pass rfl (by rfl) hK ?_; simp only [Act.put, List.setIfInBounds_toArray, List.set_cons_zero, List.set_cons_succ])
                  | (refine wpLex_take ?_ rfl (by rfl) (fun _ _ _ h => h) ?_ ?_; rotate_left; (intro wq hSw; (try dsimp only at hSw); first | (go_simp; done) | (go_simp; with_reducible rfl)); simp only [Act.put, List.setIfInBounds_toArray, List.set_cons_zero, List.set_cons_succ])
                  | (refine wpLex_act rfl (by rfl) ?_; intro KK hKK; go_simp; (go_at_call 29; refine (CR.out _).mono ?_; clear CR; rintro e w9 ⟨rfl, hb9⟩; have hK := LS.next hK hb9; replace hL := hL.next hb9); (try go_wp2_with fail); refine hKK.out _ _ hK ?_; clear hKK KK; try simp only [Act.put, List.setIfInBounds_toArray, List.set_cons_zero, List.set_cons_succ])
                  | (refine wpLex_act rfl (by rfl) ?_; intro KK hKK; have c0 := hL.2.1.cell 0 (.int .i64 0) rfl; have c1 := hL.2.1.cell 1 (.int .i64 0) rfl; have c2 := hL.2.1.cell 2 (.int .i64 0) rfl; have c3 := hL.2.1.cell 3 (.int .i64 0) rfl; have c4 := hL.2.1.cell 4 (.int .i64 0) rfl; have cf := hL.2.1.frozen; go_simp; refine hKK.out _ _ (LS.fin hK) ?_; clear hKK KK; try simp only [Act.put, List.setIfInBounds_toArray, List.set_cons_zero, List.set_cons_succ]))
                refine wpLex_nil ?_
                go_wp2_with fail
                exact bodyPost_ret (v := .tuple #[.agg #[.int .i64 A, .int .i64 B, .int .i64 0, .int .i64 L, .int .i64 M], .bool bq]) (by simp [results, Try.results16, go_sem, c0, c1, c2, c3, c4]) rfl ⟨A, B, 0, L, M, by rw [HI.out], HV.out, hL.fin⟩
              · have hz1 : ((nX : Int) == 0) = false := by simp; omega
                have HI : Hid ((rtParse (p :: r)).isSome = false) := hide (by rw [HQE.out]; unfold rpEnd; rw [HRX.out, if_neg (fun h => hz h.1)]; rfl)
                have HV : Hid (∀ v, rtParse (p :: r) = some v → v = (A, B, 0, L, M)) := hide (fun v hv => by have h := HI.out; rw [hv] at h; cases h)
                clear hz
                refine wp_region_lex (fun w' => LS w w' A B 0 L M) ((0, true) :: (1, true) :: (2, true) :: (3, true) :: (4, true) :: (5, true) :: (6, false) :: (7, true) :: (8, false) :: (9, true) :: []) (by kernel_rfl) (by kernel_rfl) (by kernel_rfl) rfl hK ?_
                repeat (first
                  | (refine wpLex_skip rfl (by rfl) (fun _ _ _ h => h) ?_; simp only [Act.put, List.setIfInBounds_toArray, List.set_cons_zero, List.set_cons_succ])
                  | (refine wpLex_pass rfl (by rfl) hK ?_; simp only [Act.put, List.setIfInBounds_toArray, List.set_cons_zero, List.set_cons_succ])
                  | (refine wpLex_take ?_ rfl (by rfl) (fun _ _ _ h => h) ?_ ?_; rotate_left; (intro wq hSw; (try dsimp only at hSw); first | (go_simp; done) | (go_simp; with_reducible rfl)); simp only [Act.put, List.setIfInBounds_toArray, List.set_cons_zero, List.set_cons_succ])
                  | (refine wpLex_act rfl (by rfl) ?_; intro KK hKK; go_simp; (go_at_call 29; refine (CR.out _).mono ?_; clear CR; rintro e w9 ⟨rfl, hb9⟩; have hK := LS.next hK hb9; replace hL := hL.next hb9); (try go_wp2_with fail); refine hKK.out _ _ hK ?_; clear hKK KK; try simp only [Act.put, List.setIfInBounds_toArray, List.set_cons_zero, List.set_cons_succ])
                  | (refine wpLex_act rfl (by rfl) ?_; intro KK hKK; have c0 := HLX.out.2.1.cell 0 (.int .i64 0) rfl; have c1 := HLX.out.2.1.cell 1 (.int .i64 0) rfl; have c2 := HLX.out.2.1.cell 2 (.int .i64 0) rfl; have c3 := HLX.out.2.1.cell 3 (.int .i64 0) rfl; have c4 := HLX.out.2.1.cell 4 (.int .i64 0) rfl; have cf := HLX.out.2.1.frozen; go_simp; refine hKK.out _ _ (LS.fin hK) ?_; clear hKK KK; try simp only [Act.put, List.setIfInBounds_toArray, List.set_cons_zero, List.set_cons_succ]))
                refine wpLex_nil ?_
                go_wp2_with fail
                exact bodyPost_ret (v := .tuple #[.agg #[.int .i64 A, .int .i64 B, .int .i64 0, .int .i64 L, .int .i64 M], .bool false]) (by simp [results, Try.results16, go_sem, c0, c1, c2, c3, c4]) rfl ⟨A, B, 0, L, M, by rw [HI.out], HV.out, hL.fin⟩
    · have HK := hide hk
      have HY3 : Hid (y3.length ≤ 1048576) := hide (HWR.out _ (keyT_mem hk).1)
      have HWR3 : Hid (∀ q ∈ R3, q.length ≤ 1048576) := hide (fun q hq => HWR.out q ((keyT_mem hk).2 q hq))
      have HAR3 := hide har
      have HR3 := hide hrl
      have hc3 : (n - 1) - 2 ≤ (cap - 1) - 2 := by omega
      clear hk hb har hrl K3
      go_wp2_with fail
      refine (specAddr_walk y3 u3 HY3.out).mono ?_
      rintro e u9 ⟨rfl, hb⟩
      have H9 := hide (H3.out.next hb)
      clear hb
      cases ho : adOK y3 with
      | false =>
        have hC : adC y3 = 6 := adC_no ho
        have HP : Hid (rtParse (p :: r) = none) := hide (by rw [HPV.out]; unfold rpVia; rw [HK.out]; simp [ho])
        rw [hC]
        clear hC ho
        have c0 := H9.out.2.1.cell 0 (.int .i64 0) rfl
        have c1 := H9.out.2.1.cell 1 (.int .i64 0) rfl
        have c2 := H9.out.2.1.cell 2 (.int .i64 0) rfl
        have c3 := H9.out.2.1.cell 3 (.int .i64 0) rfl
        have c4 := H9.out.2.1.cell 4 (.int .i64 0) rfl
        have cf := H9.out.2.1.frozen
        have r0 := H9.out.2.2.cell 0 (.int .i64 A) rfl
        have r1 := H9.out.2.2.cell 1 (.int .i64 B) rfl
        have r2 := H9.out.2.2.cell 2 (.int .i64 0) rfl
        have r3 := H9.out.2.2.cell 3 (.int .i64 0) rfl
        have r4 := H9.out.2.2.cell 4 (.int .i64 0) rfl
        have rf := H9.out.2.2.frozen
        go_wp2_with fail
        exact bodyPost_ret (v := .tuple #[.agg #[.int .i64 A, .int .i64 B, .int .i64 0, .int .i64 0, .int .i64 0], .bool false]) (by simp [results, Try.results16, go_sem, c0, c1, c2, c3, c4]) rfl ⟨A, B, 0, 0, 0, by rw [HP.out]; rfl, by rw [HP.out]; simp, H9.out.fin⟩
      | true =>
        have hC : adC y3 = 0 := adC_yes ho
        rw [hC]
        by_cases hz : adX y3 = 0
        · have HP : Hid (rtParse (p :: r) = none) := hide (by rw [HPV.out]; unfold rpVia; rw [HK.out]; simp [hz])
          rw [hz]
          clear hC ho hz
          have c0 := H9.out.2.1.cell 0 (.int .i64 0) rfl
          have c1 := H9.out.2.1.cell 1 (.int .i64 0) rfl
          have c2 := H9.out.2.1.cell 2 (.int .i64 0) rfl
          have c3 := H9.out.2.1.cell 3 (.int .i64 0) rfl
          have c4 := H9.out.2.1.cell 4 (.int .i64 0) rfl
          have cf := H9.out.2.1.frozen
          have r0 := H9.out.2.2.cell 0 (.int .i64 A) rfl
          have r1 := H9.out.2.2.cell 1 (.int .i64 B) rfl
          have r2 := H9.out.2.2.cell 2 (.int .i64 0) rfl
          have r3 := H9.out.2.2.cell 3 (.int .i64 0) rfl
          have r4 := H9.out.2.2.cell 4 (.int .i64 0) rfl
          have rf := H9.out.2.2.frozen
          go_wp2_with fail
          exact bodyPost_ret (v := .tuple #[.agg #[.int .i64 A, .int .i64 B, .int .i64 0, .int .i64 0, .int .i64 0], .bool false]) (by simp [results, Try.results16, go_sem, c0, c1, c2, c3, c4]) rfl ⟨A, B, 0, 0, 0, by rw [HP.out]; rfl, by rw [HP.out]; simp, H9.out.fin⟩
        · have HQ : Hid (rtParse (p :: r) = rpLink A B (adX y3) R3) := hide (by rw [HPV.out]; unfold rpVia; rw [HK.out]; simp [ho, hz])
          have hz' : (adX y3 == 0) = false := by simp [hz]
          clear hC ho HK
          generalize adX y3 = V at *
          have r0 := H9.out.2.2.cell 0 (.int .i64 A) rfl
          have r1 := H9.out.2.2.cell 1 (.int .i64 B) rfl
          have r2 := H9.out.2.2.cell 2 (.int .i64 0) rfl
          have r3 := H9.out.2.2.cell 3 (.int .i64 0) rfl
          have r4 := H9.out.2.2.cell 4 (.int .i64 0) rfl
          have rf := H9.out.2.2.frozen
          have HS := hide (H9.out.set 2 (.int .i64 V))
          have K10 := hide (key_walk2 w kLink R3 a3 ((n - 1) - 2) ((cap - 1) - 2) (u9.setCell ⟨w.heap.size + 1, 2, none⟩ (.int .i64 V)) HR3.out HAR3.out HS.out.1 hc3)
          go_wp2_with fail
          refine K10.out.mono ?_
          rintro e u10 ⟨hk, hb⟩
          have H10 := hide (LR.next (show LR w (u9.setCell ⟨w.heap.size + 1, 2, none⟩ (.int .i64 V)) #[.int .i64 A, .int .i64 B, .int .i64 V, .int .i64 0, .int .i64 0] from HS.out) hb)
          clear r0 r1 r2 r3 r4 rf
          rcases hk with ⟨hk, rfl⟩ | ⟨y10, R10, a10, hk, rfl, har, hrl⟩
          · have HK := hide hk
            clear hk hb K10
            have HP : Hid (rtParse (p :: r) = none) := hide (by rw [HQ.out]; unfold rpLink; rw [HK.out])
            go_wp2_with fail
            refine (numberG_walk [] 7 u10 (by simp) (by omega)).mono ?_
            rintro e u11 ⟨nn, rfl, hnn, hb⟩
            have H11 := hide (H10.out.next hb)
            clear hb
            clear hnn
            have c0 := H11.out.2.1.cell 0 (.int .i64 0) rfl
            have c1 := H11.out.2.1.cell 1 (.int .i64 0) rfl
            have c2 := H11.out.2.1.cell 2 (.int .i64 0) rfl
            have c3 := H11.out.2.1.cell 3 (.int .i64 0) rfl
            have c4 := H11.out.2.1.cell 4 (.int .i64 0) rfl
            have cf := H11.out.2.1.frozen
            have r0 := H11.out.2.2.cell 0 (.int .i64 A) rfl
            have r1 := H11.out.2.2.cell 1 (.int .i64 B) rfl
            have r2 := H11.out.2.2.cell 2 (.int .i64 V) rfl
            have r3 := H11.out.2.2.cell 3 (.int .i64 0) rfl
            have r4 := H11.out.2.2.cell 4 (.int .i64 0) rfl
            have rf := H11.out.2.2.frozen
            go_wp2_with fail
            exact bodyPost_ret (v := .tuple #[.agg #[.int .i64 A, .int .i64 B, .int .i64 V, .int .i64 0, .int .i64 0], .bool false]) (by simp [results, Try.results16, go_sem, c0, c1, c2, c3, c4]) rfl ⟨A, B, V, 0, 0, by rw [HP.out]; rfl, by rw [HP.out]; simp, H11.out.fin⟩
          · have HK := hide hk
            have HY10 : Hid (y10.length ≤ 1048576) := hide (HWR3.out _ (keyT_mem hk).1)
            have HWR10 : Hid (∀ q ∈ R10, q.length ≤ 1048576) := hide (fun q hq => HWR3.out q ((keyT_mem hk).2 q hq))
            have HAR10 := hide har
            have HR10 := hide hrl
            have hc10 : ((n - 1) - 2) - 2 ≤ ((cap - 1) - 2) - 2 := by omega
            clear hk hb har hrl K10
            go_wp2_with fail
            refine (numberG_walk y10 7 u10 HY10.out (by omega)).mono ?_
            rintro e u12 ⟨nn, rfl, hnn, hb⟩
            have H12 := hide (H10.out.next hb)
            clear hb
            cases hf : numF y10 7 with
            | false =>
              have HP : Hid (rtParse (p :: r) = none) := hide (by rw [HQ.out]; unfold rpLink; rw [HK.out]; simp [hf])
              clear hnn hf
              have c0 := H12.out.2.1.cell 0 (.int .i64 0) rfl
              have c1 := H12.out.2.1.cell 1 (.int .i64 0) rfl
              have c2 := H12.out.2.1.cell 2 (.int .i64 0) rfl
              have c3 := H12.out.2.1.cell 3 (.int .i64 0) rfl
              have c4 := H12.out.2.1.cell 4 (.int .i64 0) rfl
              have cf := H12.out.2.1.frozen
              have r0 := H12.out.2.2.cell 0 (.int .i64 A) rfl
              have r1 := H12.out.2.2.cell 1 (.int .i64 B) rfl
              have r2 := H12.out.2.2.cell 2 (.int .i64 V) rfl
              have r3 := H12.out.2.2.cell 3 (.int .i64 0) rfl
              have r4 := H12.out.2.2.cell 4 (.int .i64 0) rfl
              have rf := H12.out.2.2.frozen
              go_wp2_with fail
              exact bodyPost_ret (v := .tuple #[.agg #[.int .i64 A, .int .i64 B, .int .i64 V, .int .i64 0, .int .i64 0], .bool false]) (by simp [results, Try.results16, go_sem, c0, c1, c2, c3, c4]) rfl ⟨A, B, V, 0, 0, by rw [HP.out]; rfl, by rw [HP.out]; simp, H12.out.fin⟩
            | true =>
              have HQL : Hid (rtParse (p :: r) = rpMet A B V (numV y10) R10) := hide (by rw [HQ.out]; unfold rpLink; rw [HK.out]; simp [hf])
              rw [hnn hf]
              clear hnn hf HK
              generalize numV y10 = L at *
              have r0 := H12.out.2.2.cell 0 (.int .i64 A) rfl
              have r1 := H12.out.2.2.cell 1 (.int .i64 B) rfl
              have r2 := H12.out.2.2.cell 2 (.int .i64 V) rfl
              have r3 := H12.out.2.2.cell 3 (.int .i64 0) rfl
              have r4 := H12.out.2.2.cell 4 (.int .i64 0) rfl
              have rf := H12.out.2.2.frozen
              have HSL := hide (H12.out.set 3 (.int .i64 L))
              have K13 := hide (key_walk2 w kMetric R10 a10 (((n - 1) - 2) - 2) (((cap - 1) - 2) - 2) (u12.setCell ⟨w.heap.size + 1, 3, none⟩ (.int .i64 L)) HR10.out HAR10.out HSL.out.1 hc10)
              go_wp2_with fail
              refine K13.out.mono ?_
              rintro e u13 ⟨hk, hb⟩
              have H13 := hide (LR.next (show LR w (u12.setCell ⟨w.heap.size + 1, 3, none⟩ (.int .i64 L)) #[.int .i64 A, .int .i64 B, .int .i64 V, .int .i64 L, .int .i64 0] from HSL.out) hb)
              clear r0 r1 r2 r3 r4 rf
              rcases hk with ⟨hk, rfl⟩ | ⟨y13, R13, a13, hk, rfl, har, hrl⟩
              · have HK := hide hk
                clear hk hb K13
                have HQE : Hid (rtParse (p :: r) = rpEnd A B V L 0 R10) := hide (by rw [HQL.out]; unfold rpMet; rw [HK.out])
                generalize hnX : (((n - 1) - 2) - 2) = nX at *
                have HLX : Hid (LR w u13 #[.int .i64 A, .int .i64 B, .int .i64 V, .int .i64 L, .int .i64 0]) := H13
                have HRX : Hid (R10.length = nX) := HR10
                go_wp2_with fail
                generalize u13 = WF at *
                have hL := HLX.out.next ((Below.refl _ _).drew)
                have hK : LS w WF.drew A B V L 0 := LS.of hL
                by_cases hz : nX = 0
                · subst hz
                  have HI : Hid ((rtParse (p :: r)).isSome = rtOK A B V L 0) := hide (by rw [HQE.out]; unfold rpEnd; rw [HRX.out]; cases rtOK A B V L 0 <;> rfl)
                  have HV : Hid (∀ v, rtParse (p :: r) = some v → v = (A, B, V, L, 0)) := hide (by
                    rw [HQE.out]; unfold rpEnd
                    intro v hv
                    split at hv
                    · cases hv; rfl
                    · cases hv)
                  have CR := hide (fun W => specROK_walk A B V L 0 W)
                  generalize rtOK A B V L 0 = bq at *
                  refine wp_region_lex (fun w' => LS w w' A B V L 0) ((0, true) :: (1, true) :: (2, true) :: (3, true) :: (4, true) :: (5, true) :: (6, false) :: (7, true) :: (8, false) :: (9, true) :: []) (by kernel_rfl) (by kernel_rfl) (by kernel_rfl) rfl hK ?_
                  repeat (first
                    | (refine wpLex_skip rfl (by rfl) (fun _ _ _ h => h) ?_; simp only [Act.put, List.setIfInBounds_toArray, List.set_cons_zero, List.set_cons_succ])
                    | (refine wpLex_pass rfl (by rfl) hK ?_; simp only [Act.put, List.setIfInBounds_toArray, List.set_cons_zero, List.set_cons_succ])
                    | (refine wpLex_take ?_ rfl (by rfl) (fun _ _ _ h => h) ?_ ?_; rotate_left; (intro wq hSw; (try dsimp only at hSw); first | (go_simp; done) | (go_simp; with_reducible rfl)); simp only [Act.put, List.setIfInBounds_toArray, List.set_cons_zero, List.set_cons_succ])
                    | (refine wpLex_act rfl (by rfl) ?_; intro KK hKK; go_simp; (go_at_call 29; refine (CR.out _).mono ?_; clear CR; rintro e w9 ⟨rfl, hb9⟩; have hK := LS.next hK hb9; replace hL := hL.next hb9); (try go_wp2_with fail); refine hKK.out _ _ hK ?_; clear hKK KK; try simp only [Act.put, List.setIfInBounds_toArray, List.set_cons_zero, List.set_cons_succ])
                    | (refine wpLex_act rfl (by rfl) ?_; intro KK hKK; have c0 := hL.2.1.cell 0 (.int .i64 0) rfl; have c1 := hL.2.1.cell 1 (.int .i64 0) rfl; have c2 := hL.2.1.cell 2 (.int .i64 0) rfl; have c3 := hL.2.1.cell 3 (.int .i64 0) rfl; have c4 := hL.2.1.cell 4 (.int .i64 0) rfl; have cf := hL.2.1.frozen; go_simp; refine hKK.out _ _ (LS.fin hK) ?_; clear hKK KK; try simp only [Act.put, List.setIfInBounds_toArray, List.set_cons_zero, List.set_cons_succ]))
                  refine wpLex_nil ?_
                  go_wp2_with fail
                  exact bodyPost_ret (v := .tuple #[.agg #[.int .i64 A, .int .i64 B, .int .i64 V, .int .i64 L, .int .i64 0], .bool bq]) (by simp [results, Try.results16, go_sem, c0, c1, c2, c3, c4]) rfl ⟨A, B, V, L, 0, by rw [HI.out], HV.out, hL.fin⟩
                · have hz1 : ((nX : Int) == 0) = false := by simp; omega
                  have HI : Hid ((rtParse (p :: r)).isSome = false) := hide (by rw [HQE.out]; unfold rpEnd; rw [HRX.out, if_neg (fun h => hz h.1)]; rfl)
                  have HV : Hid (∀ v, rtParse (p :: r) = some v → v = (A, B, V, L, 0)) := hide (fun v hv => by have h := HI.out; rw [hv] at h; cases h)
                  clear hz
                  refine wp_region_lex (fun w' => LS w w' A B V L 0) ((0, true) :: (1, true) :: (2, true) :: (3, true) :: (4, true) :: (5, true) :: (6, false) :: (7, true) :: (8, false) :: (9, true) :: []) (by kernel_rfl) (by kernel_rfl) (by kernel_rfl) rfl hK ?_
                  repeat (first
                    | (refine wpLex_skip rfl (by rfl) (fun _ _ _ h => h) ?_; simp only [Act.put, List.setIfInBounds_toArray, List.set_cons_zero, List.set_cons_succ])
                    | (refine wpLex_pass rfl (by rfl) hK ?_; simp only [Act.put, List.setIfInBounds_toArray, List.set_cons_zero, List.set_cons_succ])
                    | (refine wpLex_take ?_ rfl (by rfl) (fun _ _ _ h => h) ?_ ?_; rotate_left; (intro wq hSw; (try dsimp only at hSw); first | (go_simp; done) | (go_simp; with_reducible rfl)); simp only [Act.put, List.setIfInBounds_toArray, List.set_cons_zero, List.set_cons_succ])
                    | (refine wpLex_act rfl (by rfl) ?_; intro KK hKK; go_simp; (go_at_call 29; refine (CR.out _).mono ?_; clear CR; rintro e w9 ⟨rfl, hb9⟩; have hK := LS.next hK hb9; replace hL := hL.next hb9); (try go_wp2_with fail); refine hKK.out _ _ hK ?_; clear hKK KK; try simp only [Act.put, List.setIfInBounds_toArray, List.set_cons_zero, List.set_cons_succ])
                    | (refine wpLex_act rfl (by rfl) ?_; intro KK hKK; have c0 := HLX.out.2.1.cell 0 (.int .i64 0) rfl; have c1 := HLX.out.2.1.cell 1 (.int .i64 0) rfl; have c2 := HLX.out.2.1.cell 2 (.int .i64 0) rfl; have c3 := HLX.out.2.1.cell 3 (.int .i64 0) rfl; have c4 := HLX.out.2.1.cell 4 (.int .i64 0) rfl; have cf := HLX.out.2.1.frozen; go_simp; refine hKK.out _ _ (LS.fin hK) ?_; clear hKK KK; try simp only [Act.put, List.setIfInBounds_toArray, List.set_cons_zero, List.set_cons_succ]))
                  refine wpLex_nil ?_
                  go_wp2_with fail
                  exact bodyPost_ret (v := .tuple #[.agg #[.int .i64 A, .int .i64 B, .int .i64 V, .int .i64 L, .int .i64 0], .bool false]) (by simp [results, Try.results16, go_sem, c0, c1, c2, c3, c4]) rfl ⟨A, B, V, L, 0, by rw [HI.out], HV.out, hL.fin⟩
              · have HK := hide hk
                have HY13 : Hid (y13.length ≤ 1048576) := hide (HWR10.out _ (keyT_mem hk).1)
                have HWR13 : Hid (∀ q ∈ R13, q.length ≤ 1048576) := hide (fun q hq => HWR10.out q ((keyT_mem hk).2 q hq))
                have HAR13 := hide har
                have HR13 := hide hrl
                have hc13 : (((n - 1) - 2) - 2) - 2 ≤ (((cap - 1) - 2) - 2) - 2 := by omega
                clear hk hb har hrl K13
                go_wp2_with fail
                refine (numberG_walk y13 7 u13 HY13.out (by omega)).mono ?_
                rintro e u14 ⟨nn, rfl, hnn, hb⟩
                have H14 := hide (H13.out.next hb)
                clear hb
                cases hf : numF y13 7 with
                | false =>
                  have HP : Hid (rtParse (p :: r) = none) := hide (by rw [HQL.out]; unfold rpMet; rw [HK.out]; simp [hf])
                  clear hnn hf
                  have c0 := H14.out.2.1.cell 0 (.int .i64 0) rfl
                  have c1 := H14.out.2.1.cell 1 (.int .i64 0) rfl
                  have c2 := H14.out.2.1.cell 2 (.int .i64 0) rfl
                  have c3 := H14.out.2.1.cell 3 (.int .i64 0) rfl
                  have c4 := H14.out.2.1.cell 4 (.int .i64 0) rfl
                  have cf := H14.out.2.1.frozen
                  have r0 := H14.out.2.2.cell 0 (.int .i64 A) rfl
                  have r1 := H14.out.2.2.cell 1 (.int .i64 B) rfl
                  have r2 := H14.out.2.2.cell 2 (.int .i64 V) rfl
                  have r3 := H14.out.2.2.cell 3 (.int .i64 L) rfl
                  have r4 := H14.out.2.2.cell 4 (.int .i64 0) rfl
                  have rf := H14.out.2.2.frozen
                  go_wp2_with fail
                  exact bodyPost_ret (v := .tuple #[.agg #[.int .i64 A, .int .i64 B, .int .i64 V, .int .i64 L, .int .i64 0], .bool false]) (by simp [results, Try.results16, go_sem, c0, c1, c2, c3, c4]) rfl ⟨A, B, V, L, 0, by rw [HP.out]; rfl, by rw [HP.out]; simp, H14.out.fin⟩
                | true =>
                  have HQE : Hid (rtParse (p :: r) = rpEnd A B V L (numV y13) R13) := hide (by rw [HQL.out]; unfold rpMet; rw [HK.out]; simp [hf])
                  rw [hnn hf]
                  clear hnn hf HK
                  generalize numV y13 = M at *
                  have r0 := H14.out.2.2.cell 0 (.int .i64 A) rfl
                  have r1 := H14.out.2.2.cell 1 (.int .i64 B) rfl
                  have r2 := H14.out.2.2.cell 2 (.int .i64 V) rfl
                  have r3 := H14.out.2.2.cell 3 (.int .i64 L) rfl
                  have r4 := H14.out.2.2.cell 4 (.int .i64 0) rfl
                  have rf := H14.out.2.2.frozen
                  have HSM := hide (H14.out.set 4 (.int .i64 M))
                  generalize hnX : ((((n - 1) - 2) - 2) - 2) = nX at *
                  have HLX : Hid (LR w (u14.setCell ⟨w.heap.size + 1, 4, none⟩ (.int .i64 M)) #[.int .i64 A, .int .i64 B, .int .i64 V, .int .i64 L, .int .i64 M]) := HSM
                  have HRX : Hid (R13.length = nX) := HR13
                  go_wp2_with fail
                  clear r0 r1 r2 r3 r4 rf
                  generalize (u14.setCell ⟨w.heap.size + 1, 4, none⟩ (.int .i64 M)) = WF at *
                  have hL := HLX.out.next ((Below.refl _ _).drew)
                  have hK : LS w WF.drew A B V L M := LS.of hL
                  by_cases hz : nX = 0
                  · subst hz
                    have HI : Hid ((rtParse (p :: r)).isSome = rtOK A B V L M) := hide (by rw [HQE.out]; unfold rpEnd; rw [HRX.out]; cases rtOK A B V L M <;> rfl)
                    have HV : Hid (∀ v, rtParse (p :: r) = some v → v = (A, B, V, L, M)) := hide (by
                      rw [HQE.out]; unfold rpEnd
                      intro v hv
                      split at hv
                      · cases hv; rfl
                      · cases hv)
                    have CR := hide (fun W => specROK_walk A B V L M W)
                    generalize rtOK A B V L M = bq at *
                    refine wp_region_lex (fun w' => LS w w' A B V L M) ((0, true) :: (1, true) :: (2, true) :: (3, true) :: (4, true) :: (5, true) :: (6, false) :: (7, true) :: (8, false) :: (9, true) :: []) (by kernel_rfl) (by kernel_rfl) (by kernel_rfl) rfl hK ?_
                    repeat (first
                      | (refine wpLex_skip rfl (by rfl) (fun _ _ _ h => h) ?_; simp only [Act.put, List.setIfInBounds_toArray, List.set_cons_zero, List.set_cons_succ])
                      | (refine wpLex_pass rfl (by rfl) hK ?_; simp only [Act.put, List.setIfInBounds_toArray, List.set_cons_zero, List.set_cons_succ])
                      | (refine wpLex_take ?_ rfl (by rfl) (fun _ _ _ h => h) ?_ ?_; rotate_left; (intro wq hSw; (try dsimp only at hSw); first | (go_simp; done) | (go_simp; with_reducible rfl)); simp only [Act.put, List.setIfInBounds_toArray, List.set_cons_zero, List.set_cons_succ])
                      | (refine wpLex_act rfl (by rfl) ?_; intro KK hKK; go_simp; (go_at_call 29; refine (CR.out _).mono ?_; clear CR; rintro e w9 ⟨rfl, hb9⟩; have hK := LS.next hK hb9; replace hL := hL.next hb9); (try go_wp2_with fail); refine hKK.out _ _ hK ?_; clear hKK KK; try simp only [Act.put, List.setIfInBounds_toArray, List.set_cons_zero, List.set_cons_succ])
                      | (refine wpLex_act rfl (by rfl) ?_; intro KK hKK; have c0 := hL.2.1.cell 0 (.int .i64 0) rfl; have c1 := hL.2.1.cell 1 (.int .i64 0) rfl; have c2 := hL.2.1.cell 2 (.int .i64 0) rfl; have c3 := hL.2.1.cell 3 (.int .i64 0) rfl; have c4 := hL.2.1.cell 4 (.int .i64 0) rfl; have cf := hL.2.1.frozen; go_simp; refine hKK.out _ _ (LS.fin hK) ?_; clear hKK KK; try simp only [Act.put, List.setIfInBounds_toArray, List.set_cons_zero, List.set_cons_succ]))
                    refine wpLex_nil ?_
                    go_wp2_with fail
                    exact bodyPost_ret (v := .tuple #[.agg #[.int .i64 A, .int .i64 B, .int .i64 V, .int .i64 L, .int .i64 M], .bool bq]) (by simp [results, Try.results16, go_sem, c0, c1, c2, c3, c4]) rfl ⟨A, B, V, L, M, by rw [HI.out], HV.out, hL.fin⟩
                  · have hz1 : ((nX : Int) == 0) = false := by simp; omega
                    have HI : Hid ((rtParse (p :: r)).isSome = false) := hide (by rw [HQE.out]; unfold rpEnd; rw [HRX.out, if_neg (fun h => hz h.1)]; rfl)
                    have HV : Hid (∀ v, rtParse (p :: r) = some v → v = (A, B, V, L, M)) := hide (fun v hv => by have h := HI.out; rw [hv] at h; cases h)
                    clear hz
                    refine wp_region_lex (fun w' => LS w w' A B V L M) ((0, true) :: (1, true) :: (2, true) :: (3, true) :: (4, true) :: (5, true) :: (6, false) :: (7, true) :: (8, false) :: (9, true) :: []) (by kernel_rfl) (by kernel_rfl) (by kernel_rfl) rfl hK ?_
                    repeat (first
                      | (refine wpLex_skip rfl (by rfl) (fun _ _ _ h => h) ?_; simp only [Act.put, List.setIfInBounds_toArray, List.set_cons_zero, List.set_cons_succ])
                      | (refine wpLex_pass rfl (by rfl) hK ?_; simp only [Act.put, List.setIfInBounds_toArray, List.set_cons_zero, List.set_cons_succ])
                      | (refine wpLex_take ?_ rfl (by rfl) (fun _ _ _ h => h) ?_ ?_; rotate_left; (intro wq hSw; (try dsimp only at hSw); first | (go_simp; done) | (go_simp; with_reducible rfl)); simp only [Act.put, List.setIfInBounds_toArray, List.set_cons_zero, List.set_cons_succ])
                      | (refine wpLex_act rfl (by rfl) ?_; intro KK hKK; go_simp; (go_at_call 29; refine (CR.out _).mono ?_; clear CR; rintro e w9 ⟨rfl, hb9⟩; have hK := LS.next hK hb9; replace hL := hL.next hb9); (try go_wp2_with fail); refine hKK.out _ _ hK ?_; clear hKK KK; try simp only [Act.put, List.setIfInBounds_toArray, List.set_cons_zero, List.set_cons_succ])
                      | (refine wpLex_act rfl (by rfl) ?_; intro KK hKK; have c0 := HLX.out.2.1.cell 0 (.int .i64 0) rfl; have c1 := HLX.out.2.1.cell 1 (.int .i64 0) rfl; have c2 := HLX.out.2.1.cell 2 (.int .i64 0) rfl; have c3 := HLX.out.2.1.cell 3 (.int .i64 0) rfl; have c4 := HLX.out.2.1.cell 4 (.int .i64 0) rfl; have cf := HLX.out.2.1.frozen; go_simp; refine hKK.out _ _ (LS.fin hK) ?_; clear hKK KK; try simp only [Act.put, List.setIfInBounds_toArray, List.set_cons_zero, List.set_cons_succ]))
                    refine wpLex_nil ?_
                    go_wp2_with fail
                    exact bodyPost_ret (v := .tuple #[.agg #[.int .i64 A, .int .i64 B, .int .i64 V, .int .i64 L, .int .i64 M], .bool false]) (by simp [results, Try.results16, go_sem, c0, c1, c2, c3, c4]) rfl ⟨A, B, V, L, M, by rw [HI.out], HV.out, hL.fin⟩
end Go.Proofs.Ytgegnkboibgbgaa
