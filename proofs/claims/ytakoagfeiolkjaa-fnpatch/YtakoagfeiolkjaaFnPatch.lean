/-
At every input the law FnPatch of the landed program answers true, and its arguments read afterwards as before.
No conditions.
-/
import Derived.Test.YtakoagfeiolkjaaRows
import Derived.WalkKit
import Derived.ProofKit
import Derived.OpenShut
import Derived.Test.YtakoagfeiolkjaaPat
import Derived.Test.YtakoagfeiolkjaaRows
import Derived.ShutString
import Derived.ChangeOld
import Derived.Below
namespace Go.Proofs.Ytakoagfeiolkjaa
open Go.ChangeShapes Go.WideShapes Go.ChangeAt Go.RowKit
set_option linter.unusedVariables false
set_option maxRecDepth 100000
theorem Arr.src {w w' : World} {g t : Nat} {a : Option Addr} {zs ys : List Int} (h : Arr w a zs) (hs : Src w g t ys) (hg : w.grownBy w' (some g)) : Arr w' a zs := by
  obtain ⟨a', cap, pos, st, hb, _⟩ := hs
  exact h.grown hg hb (by simp) (by simp) (by simp)
theorem set_bd {zs : List Int} (h : ∀ z ∈ zs, 0 ≤ z ∧ z ≤ 255) (j : Nat) (x : Int) (hx : 0 ≤ x ∧ x ≤ 255) : ∀ z ∈ zs.set j x, 0 ≤ z ∧ z ≤ 255 := by
  intro z hz
  rcases List.mem_or_eq_of_mem_set hz with h1 | h1
  · exact h z h1
  · subst h1; exact hx
theorem bval_set (zs : List Int) (j : Nat) (x : Int) : (bval zs).set j (.int .u8 x) = bval (zs.set j x) := by unfold bval; rw [List.map_set]
/-- What FnPatch does behind its draws: b's bytes zs, a place 2k in them, a new number. -/
theorem rep_bd (n : Nat) : ∀ z ∈ List.replicate n (0 : Int), 0 ≤ z ∧ z ≤ 255 := by
  intro z hz; rw [List.eq_of_mem_replicate hz]; decide
theorem hi_lo2 (x : Int) : x / 256 * 256 + x % 256 = x := by omega
theorem cell_two (w : World) (x y : Int) (t : Nat) : ∀ j u, (bval [x, y])[j]? = some u → (w.alloc (.cells #[.int .u8 x, .int .u8 y] t)).cell? ((⟨w.heap.size, 0, none⟩ : Addr).add j) = some u := by
  intro j u hu
  match j with
  | 0 =>
    simp [bval] at hu
    subst hu
    rw [Addr.add_lit]
    exact cell_of_row _ w.heap.size 0 _ t (0, 0) (heap_alloc_new w _)
  | 1 =>
    simp [bval] at hu
    subst hu
    rw [Addr.add_lit]
    exact cell_of_row _ w.heap.size 1 _ t (0, 0) (heap_alloc_new w _)
  | k + 2 => simp [bval] at hu
theorem OwnB.below {w w' : World} {B N g n cap : Nat} {zs : List Int} (h : OwnB w B (.slice (some ⟨g, 0, none⟩) n cap) zs) (hb : Below N w w') (hg : g < N) : OwnB w' B (.slice (some ⟨g, 0, none⟩) n cap) zs := by
  refine ⟨⟨h.1.1, ?_⟩, h.2⟩
  rcases h.1.2 with ⟨hv, _⟩ | ⟨g', cap', cur, hv, hB, hgg, rest⟩
  · cases hv
  · simp only [Value.slice.injEq, Option.some.injEq, Addr.mk.injEq, and_true] at hv
    obtain ⟨rfl, rfl, rfl⟩ := hv
    exact .inr ⟨g, cap, cur, rfl, hB, by rw [hb.block g hg]; exact hgg, rest⟩
theorem OwnB.store {w : World} {B g cap : Nat} {zs : List Int} (h : OwnB w B (.slice (some ⟨g, 0, none⟩) zs.length cap) zs) (j : Nat) (x : Int) (hx : 0 ≤ x ∧ x ≤ 255) :
    OwnB (w.setCell ⟨g, j, none⟩ (.int .u8 x)) B (.slice (some ⟨g, 0, none⟩) (zs.set j x).length cap) (zs.set j x) := by
  refine ⟨?_, set_bd h.2 j x hx⟩
  have := (h.1.stored j (.int .u8 x)).1
  rw [bval_set] at this
  rw [List.length_set]; exact this
theorem OwnB.cell {w : World} {B g cap : Nat} {zs : List Int} (h : OwnB w B (.slice (some ⟨g, 0, none⟩) zs.length cap) zs) {j : Nat} (hj : j < zs.length) : w.cell? ⟨g, j, none⟩ = some (.int .u8 (zs.getD j 0)) ∧ w.frozen? ⟨g, j, none⟩ = false :=
  ⟨by rw [h.1.cellAt j (by omega), bval_get zs j hj], h.1.frozenAt j⟩
theorem empty_own (w : World) : (w.alloc (.cells #[] 5)).ownsRow w.heap.size 5 1 (.slice (some ⟨w.heap.size, 0, none⟩) 0 0) 0 (bval []) :=
  World.ownsRow_lit (base := w.heap.size) (e := 5) (size := 1) w #[] 0 (Nat.le_refl _) (by decide) rfl
theorem copied {W w' : World} {v : Value} {zs : List Int} (h : w'.ownsRow W.heap.size 5 1 v zs.length (bval [] ++ bval zs)) (hg : (W.alloc (.cells #[] 5)).grownBy w' (some W.heap.size)) (hz : ∀ z ∈ zs, 0 ≤ z ∧ z ≤ 255) :
    OwnB w' W.heap.size v zs ∧ Below W.heap.size W w' := by
  refine ⟨⟨by simpa [bval] using h, hz⟩, ?_⟩
  exact ((Below.refl _ _).alloc (Nat.le_refl _) _).grown hg (by rw [World.size_alloc]; omega) (fun k hk => by cases hk; exact Nat.le_refl _)
set_option maxHeartbeats 4000000 in
theorem walkFnPatch (a0 : Option Addr) (len0 cap0 : Nat) (z0 : List Int) (w : World) (w0 : IsRow .u8 w a0 len0 cap0 z0) :
    Calls Try.prog 4 #[.slice a0 len0 cap0] w fun e w' => e = .returned (.bool true) ∧ Below w.heap.size w w' := by
  obtain ⟨ys, hn, ha⟩ := w0.arr
  have HN := hide hn
  have HA := hide ha
  clear hn ha w0
  by_cases hbig : 1048576 < len0
  · go_enter Try.func4, Try.ntmps4
    go_wp2
    go_ret
    exact ⟨rfl, Below.refl _ _⟩
  · have hyl : ys.length ≤ 2097152 := by rw [HN.out]; omega
    obtain ⟨i, hi, hz0, hz1, hz2⟩ := info_parts Try.infoB
    have HI := hide hi
    have HZ0 := hide hz0
    have HZ1 := hide hz1
    have HZ2 := hide hz2
    clear hi hz0 hz1 hz2
    go_enter Try.func4, Try.ntmps4
    go_wp2_with fail
    refine (lwBegin_walk _ _ _ _ ys _ HN.out HA.out (by omega) (by omega) (by omega)).mono ?_
    rintro e w1 ⟨st, rfl, hs0, hs1, hb1⟩
    have HS := hide (src_new (t := 29) (cap := cap0) HN.out (HA.out.below hb1 (Nat.le_refl _)) hs0 hs1)
    go_wp2_with fail
    have hba := (Below.refl w1.heap.size w1).alloc (Nat.le_refl _) (.cells #[.slice a0 len0 cap0, .int .i64 0, .int .u64 st] 29)
    generalize w1.alloc (.cells #[.slice a0 len0 cap0, .int .i64 0, .int .u64 st] 29) = W1 at *
    have hbel := hb1.trans (hba.mono hb1.size)
    have hg : w.heap.size ≤ w1.heap.size := hb1.size
    clear hb1 hba
    refine (lwNext_walk _ _ ys _ HS.out (by omega) (by omega) hyl).mono ?_
    rintro e w3 ⟨r3, rfl, p3, q3, hg3, hs3⟩
    have HS3 := hide hs3
    clear hs3 HS
    go_wp2_with fail
    refine (lwNext_walk _ _ ys _ HS3.out (by omega) (by omega) hyl).mono ?_
    rintro e w4 ⟨r4, rfl, p4, q4, hg4, hs4⟩
    have HS4 := hide hs4
    clear hs4 HS3
    have hb4 : Below w.heap.size w w4 := hbel.trans ((Below.refl _ _).grown (grown_trans hg3 hg4) hbel.size (fun k hk => by cases hk; exact hg))
    clear hbel hg3 hg4
    go_wp2_with fail
    refine (lwPattern_walk _ _ _ (by omega) (by omega) (by omega) (by omega)).mono ?_
    rintro e w5 ⟨v, zs, rfl, hzl, hown, hb5⟩
    obtain ⟨av, cv, rfl, harr, hcv⟩ := hown.arr
    have HO := hide harr
    have HZL := hide hzl
    have HS5 := hide (HS4.out.below hb5 (Nat.le_refl _))
    have hbel5 := hb4.trans (hb5.mono hb4.size)
    have hLb : 2 ≤ zs.length ∧ zs.length ≤ 40 ∧ zs.length % 2 = 0 := by omega
    clear hown harr hzl HS4 hb4 hb5
    go_wp2_with fail
    refine (lwNext_walk _ _ ys _ HS5.out (by omega) (by omega) hyl).mono ?_
    rintro e w6 ⟨r6, rfl, p6, q6, hg6, hs6⟩
    have HO6 := hide (HO.out.src HS5.out hg6)
    have HS6 := hide hs6
    have hb6 : Below w.heap.size w w6 := hbel5.trans ((Below.refl _ _).grown hg6 hbel5.size (fun k hk => by cases hk; exact hg))
    clear hs6 HS5 HO hbel5 hg6
    have hLz : 0 < zs.length := by omega
    by_cases h6 : r6 = 0
    · subst h6
      go_wp2_with (first | (at_make; refine wpList_make_full _ rfl _ _ 22 rfl w6.heap.size 5 i _ 1 Try.underlying22 HI.out HZ0.out HZ1.out _ _ _ _ zs.length rfl rfl rfl rfl (by rw [HZ2.out]; omega) (by unfold maxLen; omega) (Nat.le_refl _) ?_))
      intro w7 hown7 hgrow7
      have hrep : (madeCells #[.int .u8 0] (zs.length * 1)).toList = bval (List.replicate zs.length 0) := by
        rw [Nat.mul_one, toList_madeCells_one]; unfold bval; rw [List.map_replicate]
      have hB7 : Below w6.heap.size w6 w7 := (Below.refl _ _).grown hgrow7 (Nat.le_refl _) (fun k hk => by cases hk)
      have hl7 : (List.replicate zs.length (0 : Int)).length = zs.length := by simp
      have hO7 : OwnB w7 w6.heap.size (.slice (some ⟨w6.heap.size, 0, none⟩) zs.length zs.length) (List.replicate zs.length 0) := by
        refine ⟨?_, rep_bd _⟩
        rw [hl7]
        first
          | (rw [← hrep]; exact hown7)
          | (rw [← hrep, Nat.mul_one]; exact hown7)
      have harr7 : Arr w7 (some ⟨w6.heap.size, 0, none⟩) (List.replicate zs.length 0) := by
        obtain ⟨a', c', e', h', _⟩ := hO7.arr
        simp only [Value.slice.injEq] at e'
        rw [e'.1]; exact h'
      have HS7 := hide (HS6.out.below hB7 (Nat.le_refl _))
      have hb7 := hb6.trans (hB7.mono hb6.size)
      clear HO6 HS6 hb6 hown7 hgrow7 hrep hO7
      have HO6 := hide harr7
      have HS6 := HS7
      have hb6 := hb7
      clear harr7 HS7 hb7 hB7 HZL hcv
      rw [← hl7] at hLb hLz ⊢
      generalize List.replicate zs.length (0 : Int) = zs3 at *
      clear hl7 zs
      generalize zs3 = zs at *
      generalize w6.heap.size = bb at *
      obtain ⟨cc, hcc⟩ : ∃ cc, cc = zs.length := ⟨_, rfl⟩
      go_wp2_with fail
      refine (lwNext_walk _ _ ys _ HS6.out (by omega) (by omega) hyl).mono ?_
      rintro e w8 ⟨r8, rfl, p8, q8, hg8, hs8⟩
      have HO8 := hide (HO6.out.src HS6.out hg8)
      have HS8 := hide hs8
      have hb8 : Below w.heap.size w w8 := hb6.trans ((Below.refl _ _).grown hg8 hb6.size (fun k hk => by cases hk; exact hg))
      clear hs8 HS6 HO6 hb6 hg8
      obtain ⟨k, rfl⟩ := Int.eq_ofNat_of_zero_le p8
      have hk : 2 * k + 1 < zs.length := by omega
      have g1 := HO8.out.at (j := 2 * k) rfl (by omega)
      have g2 := HO8.out.at (j := 2 * k + 1) rfl hk
      have hz1 := getD_bd HO8.out.1 (2 * k)
      have hz2 := getD_bd HO8.out.1 (2 * k + 1)
      have PS := hide (fun m hi lo => psum_set zs k m hi lo hk)
      have PB := hide (psum_bd HO8.out.1 (zs.length / 2))
      try simp only [Nat.zero_add] at g1 g2
      generalize hold1 : zs.getD (2 * k) 0 = o1 at *
      generalize hold2 : zs.getD (2 * k + 1) 0 = o2 at *
      clear hold1 hold2
      go_wp2_with fail
      go_quiet (fail)
      go_wp2_with fail
      refine (lwNext_walk _ _ ys _ (show Src (w8.drewN nq) _ _ ys from HS8.out) (by omega) (by omega) hyl).mono ?_
      rintro e w9 ⟨r9, rfl, p9, q9, hg9, hs9⟩
      have HO9 := hide ((show Arr (w8.drewN nq) _ zs from HO8.out).src (show Src (w8.drewN nq) _ _ ys from HS8.out) hg9)
      have hb9 : Below w.heap.size w w9 := (below_drewN hb8 nq).trans ((Below.refl _ _).grown hg9 hb8.size (fun k hk => by cases hk; exact hg))
      clear hs9 HS8 HO8 hb8 hg9 g1 g2 p8 q8
      go_wp2_with (first | (at_builtin; refine wpList_append_own _ rfl _ _ 22 rfl w9.heap.size 5 i _ 1 1 Try.underlying22 HI.out HZ0.out HZ1.out HZ2.out rfl (by decide) (.slice (some ⟨w9.heap.size, 0, none⟩) 0 0) 0 (bval []) rfl (empty_own _) ⟨bb, 0, none⟩ zs.length zs.length (bval zs) rfl (by simp [bval]) (news_arr (HO9.out.below ((Below.refl w9.heap.size w9).alloc (Nat.le_refl _) _) (Nat.le_refl _))) (oneCells _) (by unfold maxLen; omega) (by omega) (by rw [World.size_alloc]; omega) ?_))
      intro v10 w10 hown10 hgrow10 hnil10
      obtain ⟨hO10, hB10⟩ := copied hown10 hgrow10 HO9.out.1
      obtain ⟨a10, c10, rfl, harr10, hc10⟩ := hO10.arr
      have HA10 := hide harr10
      clear hown10 hgrow10 hnil10 hO10 harr10
      go_wp2_with fail
      refine (checksum_walk _ _ _ zs _ rfl HA10.out (by omega)).mono ?_
      rintro e w11 ⟨rfl, hB11, hs11⟩
      have HS11 := hide hs11
      clear hs11 HA10
      go_wp2_with fail
      refine (patch_walk _ _ _ _).mono ?_
      rintro e w12 ⟨rfl, hw12⟩
      have HO12 := hide (((HO9.out.below hB10 (Nat.le_refl _)).below hB11 (Nat.le_refl _)))
      rw [hw12]
      have hb12 : Below w.heap.size w w11 := (hb9.trans (hB10.mono hb9.size)).trans (hB11.mono (Nat.le_trans hb9.size hB10.size))
      clear hw12 hB10 hB11 HS11 hb9 HO9
      rw [show (zs.length + 1) / 2 = zs.length / 2 by omega]
      generalize hpv : 65535 - fold (patchSum (65535 - fold (psum zs (zs.length / 2))) (o1 * 256 + o2) r9) = pv
      have HPV := hide hpv
      clear hpv
      go_wp2_with (first | (at_builtin; refine wpList_append_own _ rfl _ _ 22 rfl w11.heap.size 5 i _ 1 1 Try.underlying22 HI.out HZ0.out HZ1.out HZ2.out rfl (by decide) (.slice (some ⟨w11.heap.size, 0, none⟩) 0 0) 0 (bval []) rfl (empty_own _) ⟨bb, 0, none⟩ zs.length zs.length (bval zs) rfl (by simp [bval]) (news_arr (HO12.out.below ((Below.refl w11.heap.size w11).alloc (Nat.le_refl _) _) (Nat.le_refl _))) (oneCells _) (by unfold maxLen; omega) (by omega) (by rw [World.size_alloc]; omega) ?_))
      intro v13 w13 hown13 hgrow13 hnil13
      obtain ⟨hO13, hB13⟩ := copied hown13 hgrow13 HO12.out.1
      obtain ⟨gc, ccap, rfl, hgB, hglt⟩ := hO13.form (by omega)
      clear hown13 hgrow13 hnil13 HO12
      have HO13 := hide hO13
      clear hO13
      have s1 := HO13.out.cell (j := 2 * k) (by omega)
      have s2 := HO13.out.cell (j := 2 * k + 1) hk
      obtain ⟨sc1, sf1⟩ := s1
      obtain ⟨sc2, sf2⟩ := s2
      have HO14 := hide (HO13.out.store (2 * k) (r9 / 256) (by omega))
      have HO15 := hide (HO14.out.store (2 * k + 1) (r9 % 256) (by omega))
      have hB15 : Below w11.heap.size w11 ((w13.setCell ⟨gc, 2 * k, none⟩ (.int .u8 (r9 / 256))).setCell ⟨gc, 2 * k + 1, none⟩ (.int .u8 (r9 % 256))) := (hB13.setCell (p := ⟨gc, 2 * k, none⟩) hgB _).setCell (p := ⟨gc, 2 * k + 1, none⟩) hgB _
      have hgl15 : gc < ((w13.setCell ⟨gc, 2 * k, none⟩ (.int .u8 (r9 / 256))).setCell ⟨gc, 2 * k + 1, none⟩ (.int .u8 (r9 % 256))).heap.size := by simpa using hglt
      have hl15 : ((zs.set (2 * k) (r9 / 256)).set (2 * k + 1) (r9 % 256)).length = zs.length := by simp
      have PS1 := hide (PS.out (zs.length / 2) (r9 / 256) (r9 % 256))
      generalize hzs2 : (zs.set (2 * k) (r9 / 256)).set (2 * k + 1) (r9 % 256) = zs2 at *
      clear hzs2
      have harr15 : Hid (Arr ((w13.setCell ⟨gc, 2 * k, none⟩ (.int .u8 (r9 / 256))).setCell ⟨gc, 2 * k + 1, none⟩ (.int .u8 (r9 % 256))) (some ⟨gc, 0, none⟩) zs2) := hide (by
        obtain ⟨a', c', e', h', _⟩ := HO15.out.arr
        simp only [Value.slice.injEq] at e'
        rw [e'.1]; exact h')
      have HL15 := hide hl15
      have hk2 : 2 * k + 1 < zs2.length := by omega
      have hL2 : 0 < zs2.length ∧ zs2.length ≤ 40 ∧ zs2.length % 2 = 0 := by omega
      have hsz15 : ((w13.setCell ⟨gc, 2 * k, none⟩ (.int .u8 (r9 / 256))).setCell ⟨gc, 2 * k + 1, none⟩ (.int .u8 (r9 % 256))).heap.size = w13.heap.size := by simp
      have hE15 : (((w13.setCell ⟨gc, 2 * k, none⟩ (.int .u8 (r9 / 256))).setCell ⟨gc, 2 * k + 1, none⟩ (.int .u8 (r9 % 256))).alloc (.cells #[] 5)).ownsRow w13.heap.size 5 1 (.slice (some ⟨w13.heap.size, 0, none⟩) 0 0) 0 (bval []) := by
        have h := empty_own ((w13.setCell ⟨gc, 2 * k, none⟩ (.int .u8 (r9 / 256))).setCell ⟨gc, 2 * k + 1, none⟩ (.int .u8 (r9 % 256)))
        rw [hsz15] at h; exact h
      have HE15 := hide hE15
      have HSZ15 := hide hsz15
      clear hl15 PS HO14 HO13 hB13 hE15 hsz15
      rw [← HL15.out]
      go_wp2_with (first | (at_builtin; refine wpList_append_own _ rfl _ _ 22 rfl w13.heap.size 5 i _ 1 1 Try.underlying22 HI.out HZ0.out HZ1.out HZ2.out rfl (by decide) (.slice (some ⟨w13.heap.size, 0, none⟩) 0 0) 0 (bval []) rfl HE15.out ⟨gc, 0, none⟩ zs2.length ccap (bval zs2) rfl (by simp [bval]) (news_arr (harr15.out.below ((Below.refl ((w13.setCell ⟨gc, 2 * k, none⟩ (.int .u8 (r9 / 256))).setCell ⟨gc, 2 * k + 1, none⟩ (.int .u8 (r9 % 256))).heap.size ((w13.setCell ⟨gc, 2 * k, none⟩ (.int .u8 (r9 / 256))).setCell ⟨gc, 2 * k + 1, none⟩ (.int .u8 (r9 % 256)))).alloc (Nat.le_refl _) _) (Nat.le_refl _))) (oneCells _) (by unfold maxLen; omega) (by omega) (by rw [World.size_alloc, HSZ15.out]; omega) ?_))
      intro v16 w16 hown16 hgrow16 hnil16
      generalize ((w13.setCell ⟨gc, 2 * k, none⟩ (.int .u8 (r9 / 256))).setCell ⟨gc, 2 * k + 1, none⟩ (.int .u8 (r9 % 256))) = w15 at *
      rw [← HSZ15.out] at hown16
      have hgrow16' : (w15.alloc (.cells #[] 5)).grownBy w16 (some w15.heap.size) := by rw [HSZ15.out]; exact hgrow16
      obtain ⟨hO16, hB16⟩ := copied hown16 hgrow16' HO15.out.2
      obtain ⟨a16, c16, rfl, harr16, hc16⟩ := hO16.arr
      have HA16 := hide harr16
      clear hown16 hgrow16 hgrow16' hnil16 hO16 harr16 sc1 sc2 sf1 sf2
      go_wp2_with fail
      refine (checksum_walk _ _ _ zs2 _ rfl HA16.out (by omega)).mono ?_
      rintro e w17 ⟨rfl, hB17, hs17⟩
      have HS17 := hide hs17
      clear hs17 HA16
      rw [show (zs2.length + 1) / 2 = zs2.length / 2 by omega]
      have HE := hide (PS1.out)
      rw [← HL15.out] at HPV PB
      have hPB := PB.out
      rw [if_pos (by omega), hi_lo2 r9, ← HL15.out] at HE
      have hnear := near_math (psum zs (zs2.length / 2)) (o1 * 256 + o2) r9 hPB.1 (by omega) (by omega) p9 (by omega)
      rw [show psum zs (zs2.length / 2) - (o1 * 256 + o2) + r9 = psum zs2 (zs2.length / 2) by rw [HE.out]; omega, HPV.out] at hnear
      have hpvb : 0 ≤ pv ∧ pv ≤ 65535 := by
        have h1 := fold_bd (patchSum (65535 - fold (psum zs (zs2.length / 2))) (o1 * 256 + o2) r9) (patchSum_bd _ _ _).1
        have h2 := HPV.out
        omega
      have hP2 := psum_bd HO15.out.2 (zs2.length / 2)
      have hf2 := fold_bd (psum zs2 (zs2.length / 2)) hP2.1
      have OWN := hide (own_math (psum zs2 (zs2.length / 2)) hP2.1)
      have harr17 := hide ((harr15.out.below hB16 (Nat.le_refl _)).below hB17 (Nat.le_refl _))
      have HNEAR := hide hnear
      clear hnear hPB PB HPV PS1 HE hP2
      have cS : ∀ w', Arr w' (some ⟨gc, 0, none⟩) zs2 → Calls Try.prog 6 #[.slice (some ⟨gc, 0, none⟩) zs2.length ccap] w' fun e w'' => e = .returned (.int .i64 (65535 - fold (psum zs2 (zs2.length / 2)))) ∧ w'' = w' := fun w' h => by
        have := specChecksum_walk (some ⟨gc, 0, none⟩) zs2.length ccap zs2 w' rfl h (by omega)
        rw [show (zs2.length + 1) / 2 = zs2.length / 2 by omega] at this; exact this
      have CS := hide cS
      clear cS
      generalize hw2 : 65535 - fold (psum zs2 (zs2.length / 2)) = want at *
      have HW2 := hide hw2
      have hwb : 0 ≤ want ∧ want ≤ 65535 := by omega
      clear hw2 hf2
      go_wp2_with fail
      refine (CS.out _ harr17.out).mono ?_
      rintro e w18 ⟨rfl, rfl⟩
      have hnn : (want != want) = false := by simp
      go_wp2_with fail
      refine (lwNear_walk pv want _ HNEAR.out hpvb.1 hpvb.2 hwb.1).mono ?_
      rintro e w19 ⟨rfl, rfl⟩
      have hO19 := HO15.out.below (hB16.trans (hB17.mono hB16.size)) hgl15
      have HO19 := hide hO19
      clear hO19 HO15 CS HNEAR
      have hb19 : Below w.heap.size w w19 := (hb12.trans (hB15.mono hb12.size)).trans ((hB16.trans (hB17.mono hB16.size)).mono (Nat.le_trans hb12.size hB15.size))
      have hsz19 : w11.heap.size ≤ w19.heap.size := Nat.le_trans hB15.size (Nat.le_trans hB16.size hB17.size)
      go_wp2_with (first | (at_builtin; refine wpList_append_own _ rfl _ _ 22 rfl w11.heap.size 5 i _ 1 1 Try.underlying22 HI.out HZ0.out HZ1.out HZ2.out rfl (by decide) (.slice (some ⟨gc, 0, none⟩) zs2.length ccap) zs2.length (bval zs2) rfl (HO19.out.1.alloc _) ⟨w19.heap.size, 0, none⟩ 2 2 (bval [want / 256, want % 256]) rfl rfl (cell_two _ _ _ _) (oneCells _) (by unfold maxLen; omega) (by omega) (by rw [World.size_alloc]; omega) ?_))
      intro v20 w20 hown20 hgrow20 hnil20
      have hO20 := OwnB.app hown20 rfl HO19.out.2 (by intro z hz; simp at hz; rcases hz with rfl | rfl <;> omega)
      have hb20 : Below w.heap.size w w20 := (hb19.alloc hb19.size _).grown hgrow20 (by have := hb19.size; rw [World.size_alloc]; omega) (fun k hk => by cases hk; exact Nat.le_trans hb12.size hgB)
      obtain ⟨a20, c20, rfl, harr20, hc20⟩ := hO20.arr
      have HA20 := hide harr20
      clear hown20 hgrow20 hnil20 hO20 harr20 hb19
      have hlen20 : (zs2 ++ [want / 256, want % 256]).length = zs2.length + 2 := by simp
      have hsum : psum (zs2 ++ [want / 256, want % 256]) ((zs2.length + 2 + 1) / 2) = psum zs2 (zs2.length / 2) + want := by
        rw [show (zs2.length + 2 + 1) / 2 = zs2.length / 2 + 1 by omega, psum_app zs2 (zs2.length / 2) _ _ (by omega), hi_lo2]
      have HSUM := hide hsum
      have HL20 := hide hlen20
      clear hsum hlen20
      go_wp2_with fail
      refine (checksum_walk _ (zs2.length + 2) _ (zs2 ++ [want / 256, want % 256]) _ HL20.out HA20.out (by omega)).mono ?_
      rintro e w21 ⟨rfl, hB21, hs21⟩
      clear hs21
      rw [HSUM.out, OWN.out]
      go_wp2_with fail
      go_ret
      exact ⟨rfl, hb20.trans (hB21.mono hb20.size)⟩
    · have h6' : (r6 == 0) = false := by rw [beq_eq_false_iff_ne]; exact h6
      clear h6
      obtain ⟨bb, off, rfl, _, _⟩ := HO6.out.2 0 hLz
      generalize cv = cc at *
      go_wp2_with fail
      refine (lwNext_walk _ _ ys _ HS6.out (by omega) (by omega) hyl).mono ?_
      rintro e w8 ⟨r8, rfl, p8, q8, hg8, hs8⟩
      have HO8 := hide (HO6.out.src HS6.out hg8)
      have HS8 := hide hs8
      have hb8 : Below w.heap.size w w8 := hb6.trans ((Below.refl _ _).grown hg8 hb6.size (fun k hk => by cases hk; exact hg))
      clear hs8 HS6 HO6 hb6 hg8
      obtain ⟨k, rfl⟩ := Int.eq_ofNat_of_zero_le p8
      have hk : 2 * k + 1 < zs.length := by omega
      have g1 := HO8.out.at (j := 2 * k) rfl (by omega)
      have g2 := HO8.out.at (j := 2 * k + 1) rfl hk
      have hz1 := getD_bd HO8.out.1 (2 * k)
      have hz2 := getD_bd HO8.out.1 (2 * k + 1)
      have PS := hide (fun m hi lo => psum_set zs k m hi lo hk)
      have PB := hide (psum_bd HO8.out.1 (zs.length / 2))
      try simp only [Nat.zero_add] at g1 g2
      generalize hold1 : zs.getD (2 * k) 0 = o1 at *
      generalize hold2 : zs.getD (2 * k + 1) 0 = o2 at *
      clear hold1 hold2
      go_wp2_with fail
      go_quiet (fail)
      go_wp2_with fail
      refine (lwNext_walk _ _ ys _ (show Src (w8.drewN nq) _ _ ys from HS8.out) (by omega) (by omega) hyl).mono ?_
      rintro e w9 ⟨r9, rfl, p9, q9, hg9, hs9⟩
      have HO9 := hide ((show Arr (w8.drewN nq) _ zs from HO8.out).src (show Src (w8.drewN nq) _ _ ys from HS8.out) hg9)
      have hb9 : Below w.heap.size w w9 := (below_drewN hb8 nq).trans ((Below.refl _ _).grown hg9 hb8.size (fun k hk => by cases hk; exact hg))
      clear hs9 HS8 HO8 hb8 hg9 g1 g2 p8 q8
      go_wp2_with (first | (at_builtin; refine wpList_append_own _ rfl _ _ 22 rfl w9.heap.size 5 i _ 1 1 Try.underlying22 HI.out HZ0.out HZ1.out HZ2.out rfl (by decide) (.slice (some ⟨w9.heap.size, 0, none⟩) 0 0) 0 (bval []) rfl (empty_own _) ⟨bb, off, none⟩ zs.length cc (bval zs) rfl (by simp [bval]) (news_arr (HO9.out.below ((Below.refl w9.heap.size w9).alloc (Nat.le_refl _) _) (Nat.le_refl _))) (oneCells _) (by unfold maxLen; omega) (by omega) (by rw [World.size_alloc]; omega) ?_))
      intro v10 w10 hown10 hgrow10 hnil10
      obtain ⟨hO10, hB10⟩ := copied hown10 hgrow10 HO9.out.1
      obtain ⟨a10, c10, rfl, harr10, hc10⟩ := hO10.arr
      have HA10 := hide harr10
      clear hown10 hgrow10 hnil10 hO10 harr10
      go_wp2_with fail
      refine (checksum_walk _ _ _ zs _ rfl HA10.out (by omega)).mono ?_
      rintro e w11 ⟨rfl, hB11, hs11⟩
      have HS11 := hide hs11
      clear hs11 HA10
      go_wp2_with fail
      refine (patch_walk _ _ _ _).mono ?_
      rintro e w12 ⟨rfl, hw12⟩
      have HO12 := hide (((HO9.out.below hB10 (Nat.le_refl _)).below hB11 (Nat.le_refl _)))
      rw [hw12]
      have hb12 : Below w.heap.size w w11 := (hb9.trans (hB10.mono hb9.size)).trans (hB11.mono (Nat.le_trans hb9.size hB10.size))
      clear hw12 hB10 hB11 HS11 hb9 HO9
      rw [show (zs.length + 1) / 2 = zs.length / 2 by omega]
      generalize hpv : 65535 - fold (patchSum (65535 - fold (psum zs (zs.length / 2))) (o1 * 256 + o2) r9) = pv
      have HPV := hide hpv
      clear hpv
      go_wp2_with (first | (at_builtin; refine wpList_append_own _ rfl _ _ 22 rfl w11.heap.size 5 i _ 1 1 Try.underlying22 HI.out HZ0.out HZ1.out HZ2.out rfl (by decide) (.slice (some ⟨w11.heap.size, 0, none⟩) 0 0) 0 (bval []) rfl (empty_own _) ⟨bb, off, none⟩ zs.length cc (bval zs) rfl (by simp [bval]) (news_arr (HO12.out.below ((Below.refl w11.heap.size w11).alloc (Nat.le_refl _) _) (Nat.le_refl _))) (oneCells _) (by unfold maxLen; omega) (by omega) (by rw [World.size_alloc]; omega) ?_))
      intro v13 w13 hown13 hgrow13 hnil13
      obtain ⟨hO13, hB13⟩ := copied hown13 hgrow13 HO12.out.1
      obtain ⟨gc, ccap, rfl, hgB, hglt⟩ := hO13.form (by omega)
      clear hown13 hgrow13 hnil13 HO12
      have HO13 := hide hO13
      clear hO13
      have s1 := HO13.out.cell (j := 2 * k) (by omega)
      have s2 := HO13.out.cell (j := 2 * k + 1) hk
      obtain ⟨sc1, sf1⟩ := s1
      obtain ⟨sc2, sf2⟩ := s2
      have HO14 := hide (HO13.out.store (2 * k) (r9 / 256) (by omega))
      have HO15 := hide (HO14.out.store (2 * k + 1) (r9 % 256) (by omega))
      have hB15 : Below w11.heap.size w11 ((w13.setCell ⟨gc, 2 * k, none⟩ (.int .u8 (r9 / 256))).setCell ⟨gc, 2 * k + 1, none⟩ (.int .u8 (r9 % 256))) := (hB13.setCell (p := ⟨gc, 2 * k, none⟩) hgB _).setCell (p := ⟨gc, 2 * k + 1, none⟩) hgB _
      have hgl15 : gc < ((w13.setCell ⟨gc, 2 * k, none⟩ (.int .u8 (r9 / 256))).setCell ⟨gc, 2 * k + 1, none⟩ (.int .u8 (r9 % 256))).heap.size := by simpa using hglt
      have hl15 : ((zs.set (2 * k) (r9 / 256)).set (2 * k + 1) (r9 % 256)).length = zs.length := by simp
      have PS1 := hide (PS.out (zs.length / 2) (r9 / 256) (r9 % 256))
      generalize hzs2 : (zs.set (2 * k) (r9 / 256)).set (2 * k + 1) (r9 % 256) = zs2 at *
      clear hzs2
      have harr15 : Hid (Arr ((w13.setCell ⟨gc, 2 * k, none⟩ (.int .u8 (r9 / 256))).setCell ⟨gc, 2 * k + 1, none⟩ (.int .u8 (r9 % 256))) (some ⟨gc, 0, none⟩) zs2) := hide (by
        obtain ⟨a', c', e', h', _⟩ := HO15.out.arr
        simp only [Value.slice.injEq] at e'
        rw [e'.1]; exact h')
      have HL15 := hide hl15
      have hk2 : 2 * k + 1 < zs2.length := by omega
      have hL2 : 0 < zs2.length ∧ zs2.length ≤ 40 ∧ zs2.length % 2 = 0 := by omega
      have hsz15 : ((w13.setCell ⟨gc, 2 * k, none⟩ (.int .u8 (r9 / 256))).setCell ⟨gc, 2 * k + 1, none⟩ (.int .u8 (r9 % 256))).heap.size = w13.heap.size := by simp
      have hE15 : (((w13.setCell ⟨gc, 2 * k, none⟩ (.int .u8 (r9 / 256))).setCell ⟨gc, 2 * k + 1, none⟩ (.int .u8 (r9 % 256))).alloc (.cells #[] 5)).ownsRow w13.heap.size 5 1 (.slice (some ⟨w13.heap.size, 0, none⟩) 0 0) 0 (bval []) := by
        have h := empty_own ((w13.setCell ⟨gc, 2 * k, none⟩ (.int .u8 (r9 / 256))).setCell ⟨gc, 2 * k + 1, none⟩ (.int .u8 (r9 % 256)))
        rw [hsz15] at h; exact h
      have HE15 := hide hE15
      have HSZ15 := hide hsz15
      clear hl15 PS HO14 HO13 hB13 hE15 hsz15
      rw [← HL15.out]
      go_wp2_with (first | (at_builtin; refine wpList_append_own _ rfl _ _ 22 rfl w13.heap.size 5 i _ 1 1 Try.underlying22 HI.out HZ0.out HZ1.out HZ2.out rfl (by decide) (.slice (some ⟨w13.heap.size, 0, none⟩) 0 0) 0 (bval []) rfl HE15.out ⟨gc, 0, none⟩ zs2.length ccap (bval zs2) rfl (by simp [bval]) (news_arr (harr15.out.below ((Below.refl ((w13.setCell ⟨gc, 2 * k, none⟩ (.int .u8 (r9 / 256))).setCell ⟨gc, 2 * k + 1, none⟩ (.int .u8 (r9 % 256))).heap.size ((w13.setCell ⟨gc, 2 * k, none⟩ (.int .u8 (r9 / 256))).setCell ⟨gc, 2 * k + 1, none⟩ (.int .u8 (r9 % 256)))).alloc (Nat.le_refl _) _) (Nat.le_refl _))) (oneCells _) (by unfold maxLen; omega) (by omega) (by rw [World.size_alloc, HSZ15.out]; omega) ?_))
      intro v16 w16 hown16 hgrow16 hnil16
      generalize ((w13.setCell ⟨gc, 2 * k, none⟩ (.int .u8 (r9 / 256))).setCell ⟨gc, 2 * k + 1, none⟩ (.int .u8 (r9 % 256))) = w15 at *
      rw [← HSZ15.out] at hown16
      have hgrow16' : (w15.alloc (.cells #[] 5)).grownBy w16 (some w15.heap.size) := by rw [HSZ15.out]; exact hgrow16
      obtain ⟨hO16, hB16⟩ := copied hown16 hgrow16' HO15.out.2
      obtain ⟨a16, c16, rfl, harr16, hc16⟩ := hO16.arr
      have HA16 := hide harr16
      clear hown16 hgrow16 hgrow16' hnil16 hO16 harr16 sc1 sc2 sf1 sf2
      go_wp2_with fail
      refine (checksum_walk _ _ _ zs2 _ rfl HA16.out (by omega)).mono ?_
      rintro e w17 ⟨rfl, hB17, hs17⟩
      have HS17 := hide hs17
      clear hs17 HA16
      rw [show (zs2.length + 1) / 2 = zs2.length / 2 by omega]
      have HE := hide (PS1.out)
      rw [← HL15.out] at HPV PB
      have hPB := PB.out
      rw [if_pos (by omega), hi_lo2 r9, ← HL15.out] at HE
      have hnear := near_math (psum zs (zs2.length / 2)) (o1 * 256 + o2) r9 hPB.1 (by omega) (by omega) p9 (by omega)
      rw [show psum zs (zs2.length / 2) - (o1 * 256 + o2) + r9 = psum zs2 (zs2.length / 2) by rw [HE.out]; omega, HPV.out] at hnear
      have hpvb : 0 ≤ pv ∧ pv ≤ 65535 := by
        have h1 := fold_bd (patchSum (65535 - fold (psum zs (zs2.length / 2))) (o1 * 256 + o2) r9) (patchSum_bd _ _ _).1
        have h2 := HPV.out
        omega
      have hP2 := psum_bd HO15.out.2 (zs2.length / 2)
      have hf2 := fold_bd (psum zs2 (zs2.length / 2)) hP2.1
      have OWN := hide (own_math (psum zs2 (zs2.length / 2)) hP2.1)
      have harr17 := hide ((harr15.out.below hB16 (Nat.le_refl _)).below hB17 (Nat.le_refl _))
      have HNEAR := hide hnear
      clear hnear hPB PB HPV PS1 HE hP2
      have cS : ∀ w', Arr w' (some ⟨gc, 0, none⟩) zs2 → Calls Try.prog 6 #[.slice (some ⟨gc, 0, none⟩) zs2.length ccap] w' fun e w'' => e = .returned (.int .i64 (65535 - fold (psum zs2 (zs2.length / 2)))) ∧ w'' = w' := fun w' h => by
        have := specChecksum_walk (some ⟨gc, 0, none⟩) zs2.length ccap zs2 w' rfl h (by omega)
        rw [show (zs2.length + 1) / 2 = zs2.length / 2 by omega] at this; exact this
      have CS := hide cS
      clear cS
      generalize hw2 : 65535 - fold (psum zs2 (zs2.length / 2)) = want at *
      have HW2 := hide hw2
      have hwb : 0 ≤ want ∧ want ≤ 65535 := by omega
      clear hw2 hf2
      go_wp2_with fail
      refine (CS.out _ harr17.out).mono ?_
      rintro e w18 ⟨rfl, rfl⟩
      have hnn : (want != want) = false := by simp
      go_wp2_with fail
      refine (lwNear_walk pv want _ HNEAR.out hpvb.1 hpvb.2 hwb.1).mono ?_
      rintro e w19 ⟨rfl, rfl⟩
      have hO19 := HO15.out.below (hB16.trans (hB17.mono hB16.size)) hgl15
      have HO19 := hide hO19
      clear hO19 HO15 CS HNEAR
      have hb19 : Below w.heap.size w w19 := (hb12.trans (hB15.mono hb12.size)).trans ((hB16.trans (hB17.mono hB16.size)).mono (Nat.le_trans hb12.size hB15.size))
      have hsz19 : w11.heap.size ≤ w19.heap.size := Nat.le_trans hB15.size (Nat.le_trans hB16.size hB17.size)
      go_wp2_with (first | (at_builtin; refine wpList_append_own _ rfl _ _ 22 rfl w11.heap.size 5 i _ 1 1 Try.underlying22 HI.out HZ0.out HZ1.out HZ2.out rfl (by decide) (.slice (some ⟨gc, 0, none⟩) zs2.length ccap) zs2.length (bval zs2) rfl (HO19.out.1.alloc _) ⟨w19.heap.size, 0, none⟩ 2 2 (bval [want / 256, want % 256]) rfl rfl (cell_two _ _ _ _) (oneCells _) (by unfold maxLen; omega) (by omega) (by rw [World.size_alloc]; omega) ?_))
      intro v20 w20 hown20 hgrow20 hnil20
      have hO20 := OwnB.app hown20 rfl HO19.out.2 (by intro z hz; simp at hz; rcases hz with rfl | rfl <;> omega)
      have hb20 : Below w.heap.size w w20 := (hb19.alloc hb19.size _).grown hgrow20 (by have := hb19.size; rw [World.size_alloc]; omega) (fun k hk => by cases hk; exact Nat.le_trans hb12.size hgB)
      obtain ⟨a20, c20, rfl, harr20, hc20⟩ := hO20.arr
      have HA20 := hide harr20
      clear hown20 hgrow20 hnil20 hO20 harr20 hb19
      have hlen20 : (zs2 ++ [want / 256, want % 256]).length = zs2.length + 2 := by simp
      have hsum : psum (zs2 ++ [want / 256, want % 256]) ((zs2.length + 2 + 1) / 2) = psum zs2 (zs2.length / 2) + want := by
        rw [show (zs2.length + 2 + 1) / 2 = zs2.length / 2 + 1 by omega, psum_app zs2 (zs2.length / 2) _ _ (by omega), hi_lo2]
      have HSUM := hide hsum
      have HL20 := hide hlen20
      clear hsum hlen20
      go_wp2_with fail
      refine (checksum_walk _ (zs2.length + 2) _ (zs2 ++ [want / 256, want % 256]) _ HL20.out HA20.out (by omega)).mono ?_
      rintro e w21 ⟨rfl, hB21, hs21⟩
      clear hs21
      rw [HSUM.out, OWN.out]
      go_wp2_with fail
      go_ret
      exact ⟨rfl, hb20.trans (hB21.mono hb20.size)⟩

open Go.ChangeMaps (open_string shut_string)
theorem own : ownKnob Try.prog.godebug = none := by kernel_rfl
theorem laidOut : laidOutB Try.prog = true := by kernel_rfl

set_option maxRecDepth 100000 in
theorem fnPatch_lifted (os : Os) (started : os.Started) (H : Type) (enc : TypeId × Value → H) :
    ReturnsInHanded {} Try.checked os 4 .any (Rows.fnPatchSpec.pre6 enc Try.prog Try.f4 Rows.fnPatchRow.domain false) (Rows.fnPatchSpec.post enc Try.prog Try.f4 false true false false) := by
  refine returnsInHanded_of_change (C := Try.checked) own started (by kernel_rfl) Try.func4
    (ChangeSpec.witness6 (enc := enc) (C := Try.checked) false ⟨#[], #[.slice none 0 0], []⟩ 8 (by kernel_rfl) (by kernel_rfl) (by kernel_rfl) (by kernel_rfl)) ?_
  intro W base args ds gs before hval0 hW hcnd _
  have hval : ∀ (j : Nat) t v, Try.f4.params[j]? = some t → args[j]? = some v → Value.okWide Try.prog W .any base t v := hval0
  have hW' := hW
  obtain ⟨p, q, hA0, hV, rfl, hfz, hnd⟩ := hW
  have hA : DataW.TrodAll enc Try.prog W 0 (fun _ => true) true Try.f4.params.toList args.toList ds p := hA0
  rw [Try.params4] at hA hval
  obtain ⟨v0, vs0, d0, ds0, p0, q0, hargs, rfl, rfl, h0, r0⟩ := trodAll_cons hA
  obtain ⟨rfl, rfl, rfl⟩ := trodAll_nil r0
  obtain rfl : args = #[v0] := by cases args; simp_all
  obtain ⟨rfl, rfl⟩ := trodVars_none hV
  obtain ⟨a0, len0, cap0, rfl⟩ := okWide_slice Try.underlying22 (hval 0 22 v0 rfl rfl)
  have k0 := h0
  have lt0 : ∀ x ∈ p0, x.block < W.heap.size := by obtain ⟨m, hm⟩ := k0; exact DataW.trod_lt m _ _ _ hm
  obtain ⟨z0, w0⟩ : ∃ zs, IsRow .u8 W a0 len0 cap0 zs := by
    obtain ⟨fuel, hf⟩ := h0
    rcases open_ints Try.underlying22 Try.underlying5 (by kernel_rfl) hf with ⟨hcs, _⟩ | ⟨x, l, c, zs, hcs, _, hl, hm, hz, _, hcell, hwz⟩
    · simp [Value.cells] at hcs
      obtain ⟨rfl, rfl, rfl⟩ := hcs
      exact ⟨[], .inl ⟨rfl, rfl, rfl, rfl⟩⟩
    · simp [Value.cells] at hcs
      obtain ⟨rfl, rfl, rfl⟩ := hcs
      exact ⟨zs, .inr ⟨_, rfl, hl, hm, by simpa using hz, hcell, hwz⟩⟩
  clear hA0 hval0
  refine (walkFnPatch a0 len0 cap0 z0 W w0).mono fun e W' ⟨he, bel⟩ => ?_
  subst he
  exact ⟨_, rfl, _, _, _, [], _, [], hW', trodAll_mk1 (shut_bool Try.underlying4 _), (trodAll_cons_mk (Below.trod laidOut (by kernel_rfl) (of_decide_eq_true (by kernel_rfl)) k0 bel lt0) trodAll_mk0), rfl, bel.frame _, fun h => by cases h⟩

theorem fnPatch_over : Rows.fnPatchRow.holds Try.pinned (OpenSpec.ofChange Rows.fnPatchSpec) :=
  OpenClaim.holds_of_wide 4 Try.f4 rfl rfl rfl rfl rfl rfl rfl ⟨rfl, rfl, rfl, rfl, rfl⟩ rfl rfl rfl rfl rfl (by kernel_rfl) Try.func4 (by kernel_rfl)
    (of_decide_eq_true (by kernel_rfl)) (by unfold Func.isWrapper; first | (rw [if_pos (by decide +kernel)]; kernel_rfl) | (rw [if_neg (by decide +kernel)]; exact ⟨rfl, rfl⟩))
    (fun os started H enc _ => fnPatch_lifted os started H enc)

theorem fnPatch_holds : Rows.FnPatchSaid := fnPatch_over
end Go.Proofs.Ytakoagfeiolkjaa
