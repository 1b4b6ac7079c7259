/-
Contracts of functions of this seat.
-/
import Derived.Test.YtfffkgladjphoaaRows
import Derived.WalkKit
import Derived.ProofKit
import Derived.OpenShut
import Derived.Test.YtfffkgladjphoaaBl8
import Derived.Deep.RegionLawGrows
namespace Go.Proofs.Ytfffkgladjphoaa
open Go.ChangeShapes Go.WideShapes Go.ChangeAt Go.RowKit
set_option linter.unusedVariables false
set_option maxRecDepth 100000
theorem app_nothing {P : Program} (w : World) (t ty e : TypeId) (i : TypeInfo) (ht : P.underlying t = some (.slice e)) (hi : P.info? e = some i) (g : Nat) (aa : Option Addr) (c : Nat) :
    (Builtin.append_ #[t, t] ty #[.slice (some ⟨g, 0, none⟩) 0 0, .slice aa 0 c]).run P w = .ok (.slice (some ⟨g, 0, none⟩) 0 0) w := by
  cases aa <;> simp [Builtin.append_, run_underlying ht, sizeOf, typeInfo, hi, Builtin.lenOf, Builtin.firstCells, storeCells, loadCells, loadCellsFrom]
theorem wp_append_grows {P : Program} {o : Oper} {a : Act} {w : World} {K : Act → World → Prop} {Q : Exit → Act → World → Prop}
    (hg : o.guard = none) (s x : Operand) (t : TypeId) (hop : o.op = Op.call { callee := Callee.builtin Builtin.append, args := #[s, x], argTypes := #[t, t] })
    (e : TypeId) (i : TypeInfo) (z : Value) (size bytes : Nat) (h1 : P.underlying t = some (.slice e)) (h2 : P.info? e = some i) (h3 : i.zero = some z) (h4 : i.size = size) (h5 : i.bytes = bytes) (h6 : z.cells.size = size) (h7 : 0 < size)
    (ao : Option Addr) (n cap : Nat) (olds : List Value) (hs : a.eval s = .slice ao n cap) (hnone : ao = none → n = 0 ∧ cap = 0) (hlo : olds.length = n * size) (holds : ∀ b, ao = some b → ∀ j u, olds[j]? = some u → w.cell? (b.add j) = some u)
    (ad : Addr) (m c : Nat) (news : List Value) (hx : a.eval x = .slice (some ad) m c) (hn : news.length = m * size) (hc : ∀ j u, news[j]? = some u → w.cell? (ad.add j) = some u) (h1c : ∀ u ∈ news, u.oneCell' = true)
    (hfull : cap < n + m) (b1 : n + m ≤ maxLen) (b2 : (n + m) * bytes ≤ 140737488355328)
    (hK : ∀ v' w', w'.ownsRow w.heap.size e size v' (n + m) (olds ++ news) → w.grownBy w' none → K (a.put o.dst v') w') : Oper.wp P o a w K Q := by
  have h := step_append_grows (ops := #[]) (E := True) (Q := Q) hg s x t hop e i z size bytes h1 h2 h3 h4 h5 h6 h7 ao n cap olds hs hnone hlo holds ad m c news hx hn hc h1c hfull b1 b2 hK
  rwa [if_pos (by simp [Region.wanted, hg])] at h
theorem val_one (os : List PieceM) : ∀ u ∈ os.flatMap valPiece, u.oneCell' = true := by
  intro u hu
  obtain ⟨o, _, hu⟩ := List.mem_flatMap.1 hu
  simp [valPiece] at hu
  rcases hu with rfl | rfl | rfl | rfl | rfl | rfl <;> rfl
theorem two_boxes (w : World) (o1 o2 : Array Value) (t1 t2 : Nat) : Below w.heap.size w ((w.alloc (.cells o1 t1)).alloc (.cells o2 t2)) ∧ HoldV ((w.alloc (.cells o1 t1)).alloc (.cells o2 t2)) w.heap.size o1 t1 ∧ HoldV ((w.alloc (.cells o1 t1)).alloc (.cells o2 t2)) (w.heap.size + 1) o2 t2 := by
  obtain ⟨h1, h2, h3⟩ := two_allocs w (.cells o1 t1) (.cells o2 t2)
  exact ⟨h1, h2, h3⟩
/-- An own row of pieces, of a world. -/
def RowP (W : World) (BB : Nat) (v : Value) (n : Nat) (os : List PieceM) : Prop := W.ownsRow BB 36 6 v n (os.flatMap valPiece)
theorem RowP.next {W W' : World} {BB n : Nat} {v : Value} {os : List PieceM} (h : RowP W BB v n os) (hb : Below W.heap.size W W') : RowP W' BB v n os := by
  refine ⟨h.1, ?_⟩
  rcases h.2 with h0 | ⟨g, cap, cur, hv, hB, hg, hrest⟩
  · exact .inl h0
  · exact .inr ⟨g, cap, cur, hv, hB, by rw [hb.block g (Array.getElem?_eq_some_iff.1 hg).1]; exact hg, hrest⟩
theorem RowP.form {W : World} {BB n : Nat} {v : Value} {os : List PieceM} (h : RowP W BB v n os) : ∃ a cap, v = .slice a n cap := by
  rcases h.2 with ⟨h0, h1⟩ | ⟨g, cap, cur, hv, _⟩
  · exact ⟨none, 0, by rw [h0, h1]⟩
  · exact ⟨_, _, hv⟩
def A33 (w : World) (X n c : Nat) (u x : Int) (aa : Option Addr) (os : List PieceM) : Nat → Value → World → Prop
  | 0, v, _ => v = .pointer (some ⟨X, 0, none⟩)
  | 1, v, _ => v = .int .i64 u
  | 2, v, _ => v = .pointer (some ⟨X, 1, none⟩)
  | 3, v, _ => v = .int .i64 x
  | 4, v, W => ∃ g : Nat, v = .slice (some ⟨g, 0, none⟩) 0 0 ∧ RowP W (w.heap.size + 2) (.slice (some ⟨g, 0, none⟩) 0 0) 0 []
  | 5, v, _ => v = .pointer (some ⟨X, 2, none⟩)
  | 6, v, _ => v = .slice aa n c
  | 7, v, W => RowP W (w.heap.size + 2) v n os
  | 8, v, W => ∃ v7 : Value, v = .agg #[.int .i64 u, .int .i64 x, v7] ∧ RowP W (w.heap.size + 2) v7 n os
  | _, _, _ => True
theorem A33_kept {w : World} {X n c : Nat} {u x : Int} {aa : Option Addr} {os : List PieceM} : ∀ (i : Nat) (v : Value) (W W' : World), Below W.heap.size W W' → A33 w X n c u x aa os i v W → A33 w X n c u x aa os i v W' := by
  intro i v W W' hg h
  unfold A33 at h ⊢
  split at h
  all_goals first
    | exact h
    | exact h.next hg
    | (obtain ⟨g, e, hh⟩ := h; exact ⟨g, e, hh.next hg⟩)
set_option maxHeartbeats 16000000 in
theorem l15Copy_walk (u x : Int) (aa : Option Addr) (n c : Nat) (os : List PieceM) (w : World) (hn : os.length = n) (ha : ArrP w aa (os.flatMap valPiece)) (hm : n ≤ 1048576) :
    Calls Try.prog 17 #[.agg #[.int .i64 u, .int .i64 x, .slice aa n c]] w fun e w' => ∃ v : Value, e = .returned (.agg #[.int .i64 u, .int .i64 x, v]) ∧ RowP w' (w.heap.size + 2) v n os ∧ Below w.heap.size w w' := by
  obtain ⟨hb2, hX, hR⟩ := two_boxes w #[.int .i64 u, .int .i64 x, .slice aa n c] #[.int .i64 0, .int .i64 0, .slice none 0 0] 28 28
  have HB2 := hide hb2; have HX := hide hX; have HR := hide hR
  obtain ⟨i, hi, hz0, hz1, hz2⟩ := info_parts Try.infoPiece
  have HI := hide hi; have HI0 := hide hz0; have HI1 := hide hz1; have HI2 := hide hz2
  have HN := hide hn; have HA := hide ha
  have HL : Hid ((os.flatMap valPiece).length = n * 6) := hide (by rw [vlen valPiece 6 valPiece_len, hn])
  clear hb2 hX hR hi hz0 hz1 hz2 hn ha
  go_enter Try.func17, Try.ntmps17
  go_upto_region 1 with fail
  obtain ⟨X, hXe⟩ : ∃ X, X = w.heap.size := ⟨_, rfl⟩
  refine wp_region_last2 (fun W W' => Below W.heap.size W W') (fun W => Below w.heap.size w W ∧ HoldV W w.heap.size #[.int .i64 u, .int .i64 x, .slice aa n c] 28 ∧ HoldV W (w.heap.size + 1) #[.int .i64 0, .int .i64 0, .slice none 0 0] 28) (A33 w w.heap.size n c u x aa os) _ rfl (by kernel_rfl) (by kernel_rfl) (by kernel_rfl) (by kernel_rfl) A33_kept ⟨HB2.out.drew, HX.out, HR.out⟩ ?_ ?_
  · clear HB2 HX HR
    refine EachBut.one _ _ _ ?_ ?_
    · intro v W hB hp KK hKK
      rw [if_pos (by rfl)]
      have hp1 : AllOf (A33 w w.heap.size n c u x aa os) v W [] := hp
      clear hp
      simp only [putAll, Act.put, List.setIfInBounds_toArray, List.set_cons_zero, List.set_cons_succ, Nat.reduceAdd] at hKK ⊢
      clear hp1
      go_simp
      refine hKK _ _ (Below.refl _ _) hB ?_
      rfl
    refine EachBut.one _ _ _ ?_ ?_
    · intro v W hB hp KK hKK
      rw [if_pos (by rfl)]
      have hp1 : AllOf (A33 w w.heap.size n c u x aa os) v W [0] := hp
      clear hp
      simp only [putAll, Act.put, List.setIfInBounds_toArray, List.set_cons_zero, List.set_cons_succ, Nat.reduceAdd] at hKK ⊢
      have e0 : v 0 = .pointer (some ⟨w.heap.size, 0, none⟩) := hp1.1
      have hc := hB.2.1.cell 0 _ rfl
      simp only [e0] at hKK ⊢
      clear e0
      clear hp1
      go_simp
      refine hKK _ _ (Below.refl _ _) hB ?_
      rfl
    refine EachBut.one _ _ _ ?_ ?_
    · intro v W hB hp KK hKK
      rw [if_pos (by rfl)]
      have hp1 : AllOf (A33 w w.heap.size n c u x aa os) v W [] := hp
      clear hp
      simp only [putAll, Act.put, List.setIfInBounds_toArray, List.set_cons_zero, List.set_cons_succ, Nat.reduceAdd] at hKK ⊢
      clear hp1
      go_simp
      refine hKK _ _ (Below.refl _ _) hB ?_
      rfl
    refine EachBut.one _ _ _ ?_ ?_
    · intro v W hB hp KK hKK
      rw [if_pos (by rfl)]
      have hp1 : AllOf (A33 w w.heap.size n c u x aa os) v W [2] := hp
      clear hp
      simp only [putAll, Act.put, List.setIfInBounds_toArray, List.set_cons_zero, List.set_cons_succ, Nat.reduceAdd] at hKK ⊢
      have e2 : v 2 = .pointer (some ⟨w.heap.size, 1, none⟩) := hp1.1
      have hc := hB.2.1.cell 1 _ rfl
      simp only [e2] at hKK ⊢
      clear e2
      clear hp1
      go_simp
      refine hKK _ _ (Below.refl _ _) hB ?_
      rfl
    refine EachBut.one _ _ _ ?_ ?_
    · intro v W hB hp KK hKK
      rw [if_pos (by rfl)]
      have hp1 : AllOf (A33 w w.heap.size n c u x aa os) v W [] := hp
      clear hp
      simp only [putAll, Act.put, List.setIfInBounds_toArray, List.set_cons_zero, List.set_cons_succ, Nat.reduceAdd] at hKK ⊢
      clear hp1
      have HB := hide hB
      clear hB
      go_simp
      refine hKK _ _ ((Below.refl _ _).alloc (Nat.le_refl _) _) ⟨HB.out.1.alloc HB.out.1.size _, HB.out.2.1.next ((Below.refl _ _).alloc (Nat.le_refl _) _), HB.out.2.2.next ((Below.refl _ _).alloc (Nat.le_refl _) _)⟩ ?_
      refine ⟨W.heap.size, rfl, ?_⟩
      exact (World.ownsRow_lit (base := w.heap.size + 2) (e := 36) (size := 6) W #[] 0 (by have := HB.out.2.2.lt; omega) (by decide) rfl)
    refine EachBut.one _ _ _ ?_ ?_
    · intro v W hB hp KK hKK
      rw [if_pos (by rfl)]
      have hp1 : AllOf (A33 w w.heap.size n c u x aa os) v W [] := hp
      clear hp
      simp only [putAll, Act.put, List.setIfInBounds_toArray, List.set_cons_zero, List.set_cons_succ, Nat.reduceAdd] at hKK ⊢
      clear hp1
      go_simp
      refine hKK _ _ (Below.refl _ _) hB ?_
      rfl
    refine EachBut.one _ _ _ ?_ ?_
    · intro v W hB hp KK hKK
      rw [if_pos (by rfl)]
      have hp1 : AllOf (A33 w w.heap.size n c u x aa os) v W [5] := hp
      clear hp
      simp only [putAll, Act.put, List.setIfInBounds_toArray, List.set_cons_zero, List.set_cons_succ, Nat.reduceAdd] at hKK ⊢
      have e5 : v 5 = .pointer (some ⟨w.heap.size, 2, none⟩) := hp1.1
      have hc := hB.2.1.cell 2 _ rfl
      simp only [e5] at hKK ⊢
      clear e5
      clear hp1
      go_simp
      refine hKK _ _ (Below.refl _ _) hB ?_
      rfl
    refine EachBut.one _ _ _ ?_ ?_
    · intro v W hB hp KK hKK
      rw [if_pos (by rfl)]
      have hp1 : AllOf (A33 w w.heap.size n c u x aa os) v W [4, 6] := hp
      clear hp
      simp only [putAll, Act.put, List.setIfInBounds_toArray, List.set_cons_zero, List.set_cons_succ, Nat.reduceAdd] at hKK ⊢
      have e6 : v 6 = .slice aa n c := hp1.2.1
      obtain ⟨g, e4, hg⟩ := hp1.1
      simp only [e6] at hKK ⊢
      clear e6
      simp only [e4] at hKK ⊢
      clear e4 hp1
      have HB := hide hB
      clear hB
      by_cases hn0 : n = 0
      · subst hn0
        have hos : os = [] := List.length_eq_zero_iff.1 HN.out
        subst hos
        have hrun := fun ty => app_nothing (P := Try.prog) W 26 ty 36 i Try.underlying26 HI.out g aa c
        unfold Oper.wp
        simp [execOp, resolve, invoke, builtin, Act.eval, hrun, Result.andThen]
        exact hKK _ _ (Below.refl _ _) HB.out hg
      · have HAW := HA.out.below HB.out.1 (Nat.le_refl _)
        obtain ⟨b, off, rfl, hbs, _⟩ := HAW 0 (by rw [HL.out]; omega)
        have hcells : ∀ j u, (os.flatMap valPiece)[j]? = some u → W.cell? ((⟨b, off, none⟩ : Addr).add j) = some u := by
          intro j u hj
          obtain ⟨b2, off2, e2, _, hc2⟩ := HAW j (List.getElem?_eq_some_iff.1 hj).1
          cases e2
          rw [Go.WideShapes.add_plain, hc2, hj]
        refine wp_append_grows rfl (.tmp 7) (.tmp 9) 26 rfl 36 i _ 6 40 Try.underlying26 HI.out HI0.out HI1.out HI2.out rfl (by decide) (some ⟨g, 0, none⟩) 0 0 [] rfl (by simp) rfl (by intro b hb j u hu; simp at hu) ⟨b, off, none⟩ n c (os.flatMap valPiece) rfl HL.out hcells (val_one os) (by omega) (by unfold maxLen; omega) (by omega) ?_
        intro v2 w2 hown hgr
        have hbl : Below W.heap.size W w2 := (Below.refl _ _).grown hgr (Nat.le_refl _) (fun k hk => by cases hk)
        rw [Nat.zero_add, List.nil_append] at hown
        refine hKK _ _ hbl ⟨HB.out.1.trans (hbl.mono HB.out.1.size), HB.out.2.1.next hbl, HB.out.2.2.next hbl⟩ ?_
        have hsz := HB.out.2.2.lt
        refine ⟨hown.1, ?_⟩
        rcases hown.2 with h0 | ⟨g2, cap, cur, hv, hB2, hrest⟩
        · exact .inl h0
        · exact .inr ⟨g2, cap, cur, hv, by omega, hrest⟩
    refine EachBut.one _ _ _ ?_ ?_
    · intro v W hB hp KK hKK
      rw [if_pos (by rfl)]
      have hp1 : AllOf (A33 w w.heap.size n c u x aa os) v W [1, 3, 7] := hp
      clear hp
      simp only [putAll, Act.put, List.setIfInBounds_toArray, List.set_cons_zero, List.set_cons_succ, Nat.reduceAdd] at hKK ⊢
      have e1 : v 1 = .int .i64 u := hp1.1
      have e3 : v 3 = .int .i64 x := hp1.2.1
      have h7 : RowP W (w.heap.size + 2) (v 7) n os := hp1.2.2.1
      simp only [e1, e3] at hKK ⊢
      clear e1 e3
      clear hp1
      obtain ⟨b7, c7, e7⟩ := h7.form
      simp only [e7] at hKK ⊢
      rw [e7] at h7
      clear e7
      have H7 := hide h7
      clear h7
      go_simp
      refine hKK _ _ (Below.refl _ _) hB ?_
      exact ⟨_, rfl, H7.out⟩
    · exact trivial
  intro v W hB hA KK hKK
  rw [if_pos (by rfl)]
  simp only [putAll, Act.put, List.setIfInBounds_toArray, List.set_cons_zero, List.set_cons_succ, Nat.reduceAdd]
  have p0 : (A33 w w.heap.size n c u x aa os) 0 (v 0) W := hA 0 (by decide)
  have p1 : (A33 w w.heap.size n c u x aa os) 1 (v 1) W := hA 1 (by decide)
  have p2 : (A33 w w.heap.size n c u x aa os) 2 (v 2) W := hA 2 (by decide)
  have p3 : (A33 w w.heap.size n c u x aa os) 3 (v 3) W := hA 3 (by decide)
  have p4 : (A33 w w.heap.size n c u x aa os) 4 (v 4) W := hA 4 (by decide)
  have p5 : (A33 w w.heap.size n c u x aa os) 5 (v 5) W := hA 5 (by decide)
  have p6 : (A33 w w.heap.size n c u x aa os) 6 (v 6) W := hA 6 (by decide)
  have p7 : (A33 w w.heap.size n c u x aa os) 7 (v 7) W := hA 7 (by decide)
  have p8 : (A33 w w.heap.size n c u x aa os) 8 (v 8) W := hA 8 (by decide)
  clear hA
  have e0 : v 0 = .pointer (some ⟨w.heap.size, 0, none⟩) := p0
  have e1 : v 1 = .int .i64 u := p1
  have e2 : v 2 = .pointer (some ⟨w.heap.size, 1, none⟩) := p2
  have e3 : v 3 = .int .i64 x := p3
  have e5 : v 5 = .pointer (some ⟨w.heap.size, 2, none⟩) := p5
  have e6 : v 6 = .slice aa n c := p6
  obtain ⟨g4, e4, _⟩ := p4
  obtain ⟨v7, e8, h7⟩ := p8
  obtain ⟨b7, c7, e7⟩ := RowP.form p7
  simp only [e0, e1, e2, e3, e4, e5, e6, e7, e8]
  clear e0 e1 e2 e3 e4 e5 e6 e7 e8 p0 p1 p2 p3 p5 p6
  obtain ⟨bz, cz, rfl⟩ := h7.form
  clear p7
  have r0 := hB.2.2.cell 0 _ rfl; have r1 := hB.2.2.cell 1 _ rfl; have r2 := hB.2.2.cell 2 _ rfl; have rf := hB.2.2.frozen
  have HR3 : Hid (HoldV (((W.setCell ⟨w.heap.size + 1, 0, none⟩ (.int .i64 u)).setCell ⟨w.heap.size + 1, 1, none⟩ (.int .i64 x)).setCell ⟨w.heap.size + 1, 2, none⟩ (.slice bz n cz)) (w.heap.size + 1) #[.int .i64 u, .int .i64 x, .slice bz n cz] 28) := hide (hv_set (hv_set (hv_set hB.2.2 0 _) 1 _) 2 _)
  have hg3 : W.grownBy (((W.setCell ⟨w.heap.size + 1, 0, none⟩ (.int .i64 u)).setCell ⟨w.heap.size + 1, 1, none⟩ (.int .i64 x)).setCell ⟨w.heap.size + 1, 2, none⟩ (.slice bz n cz)) (some (w.heap.size + 1)) := gr_set (gr_set (gr_set (grown_reflp _ _) 0 _) 1 _) 2 _
  have HF : Hid (RowP (((W.setCell ⟨w.heap.size + 1, 0, none⟩ (.int .i64 u)).setCell ⟨w.heap.size + 1, 1, none⟩ (.int .i64 x)).setCell ⟨w.heap.size + 1, 2, none⟩ (.slice bz n cz)) (w.heap.size + 2) (.slice bz n cz) n os ∧ Below w.heap.size w (((W.setCell ⟨w.heap.size + 1, 0, none⟩ (.int .i64 u)).setCell ⟨w.heap.size + 1, 1, none⟩ (.int .i64 x)).setCell ⟨w.heap.size + 1, 2, none⟩ (.slice bz n cz))) := hide ⟨by
    refine ⟨h7.1, ?_⟩
    rcases h7.2 with h0 | ⟨g2, cap, cur, hv, hB2, hg2, hrest⟩
    · exact .inl h0
    · exact .inr ⟨g2, cap, cur, hv, hB2, (hg3.block g2 (Array.getElem?_eq_some_iff.1 hg2).1 (fun e => by cases e; omega)).trans hg2, hrest⟩, below_gr hB.1 hg3 hB.1.size (Nat.le_succ _)⟩
  clear hB h7 hg3
  go_simp
  refine hKK _ _ ?_
  clear hKK KK r0 r1 r2 rf
  generalize (((W.setCell ⟨w.heap.size + 1, 0, none⟩ (.int .i64 u)).setCell ⟨w.heap.size + 1, 1, none⟩ (.int .i64 x)).setCell ⟨w.heap.size + 1, 2, none⟩ (.slice bz n cz)) = W1 at *
  have s0 := HR3.out.cell 0 _ rfl; have s1 := HR3.out.cell 1 _ rfl; have s2 := HR3.out.cell 2 _ rfl
  go_wp2_with fail
  exact bodyPost_ret (v := .agg #[.int .i64 u, .int .i64 x, .slice bz n cz]) (by simp [results, Try.results17, go_sem, s0, s1, s2]) rfl ⟨_, rfl, HF.out⟩
end Go.Proofs.Ytfffkgladjphoaa
