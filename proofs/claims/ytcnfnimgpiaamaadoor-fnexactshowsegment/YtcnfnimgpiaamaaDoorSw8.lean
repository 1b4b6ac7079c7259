/-
Contracts of functions of this seat.
-/
import Derived.Test.YtcnfnimgpiaamaaDoorRows
import Derived.WalkKit
import Derived.ProofKit
import Derived.OpenShut
import Derived.Test.YtcnfnimgpiaamaaDoorSw7
import Derived.Deep.DeepCutAuto
namespace Go.Proofs.YtcnfnimgpiaamaaDoor
open Go.ChangeShapes Go.WideShapes Go.ChangeAt Go.RowKit
set_option linter.unusedVariables false
set_option maxRecDepth 100000
abbrev wMss : ByteArray := ⟨#[109, 115, 115]⟩
abbrev wScale : ByteArray := ⟨#[115, 99, 97, 108, 101]⟩
abbrev wSackok : ByteArray := ⟨#[115, 97, 99, 107, 111, 107]⟩
abbrev wSack : ByteArray := ⟨#[115, 97, 99, 107]⟩
abbrev wData : ByteArray := ⟨#[100, 97, 116, 97]⟩
def wdA (x0 x1 x4 x2 x3 x5 : Int) : List ByteArray := [(decT x0 ++ (⟨#[62]⟩ : ByteArray)) ++ decT x1, flT x4, decT x2, decT x3, decT x5]
def wdM (x6 : Int) : List ByteArray := if x6 = 0 then [] else [wMss, decT x6]
def wdS (x7 : Bool) (x8 : Int) : List ByteArray := if x7 then [wScale, decT x8] else []
def wdO (x9 : Bool) : List ByteArray := if x9 then [wSackok] else []
def wdK (z : List Int) : Nat → List ByteArray
  | 0 => []
  | k + 1 => wdK z k ++ [wSack, (decT (z.getD (k * 2) 0) ++ (⟨#[45]⟩ : ByteArray)) ++ decT (z.getD (k * 2 + 1) 0)]
def wdD (zs : List Int) : List ByteArray := if zs = [] then [] else [wData, strB (hexL zs)]
/-- A segment's words. -/
def sgWd (x0 x1 x2 x3 x4 x5 x6 : Int) (x7 : Bool) (x8 : Int) (x9 : Bool) (n0 : Nat) (z zs : List Int) : List ByteArray := ((((wdA x0 x1 x4 x2 x3 x5 ++ wdM x6) ++ wdS x7 x8) ++ wdO x9) ++ wdK z n0) ++ wdD zs
theorem wdK_len (z : List Int) : ∀ k, (wdK z k).length = 2 * k
  | 0 => rfl
  | k + 1 => by unfold wdK; rw [List.length_append, wdK_len z k]; simp; omega
abbrev WdW (w : World) (vs : Array Value) (v : Value) (ss : List ByteArray) (W : World) : Prop := ShW w vs W ∧ OwnW W (w.heap.size + 1) v ss
theorem WdW.next {w W W' : World} {vs : Array Value} {v : Value} {ss : List ByteArray} (h : WdW w vs v ss W) (hb : Below W.heap.size W W') : WdW w vs v ss W' := ⟨h.1.next hb, h.2.next hb⟩
theorem WdW.size {w W : World} {vs : Array Value} {v : Value} {ss : List ByteArray} (h : WdW w vs v ss W) : w.heap.size + 1 ≤ W.heap.size := h.1.2.lt
theorem WdW.app {w W W' : World} {vs : Array Value} {v v' : Value} {ss ys : List ByteArray} {n : Nat} (h : WdW w vs v ss W) (hg : W.grownBy W' v.ownBlock) (ho : W'.ownsRow (w.heap.size + 1) 9 1 v' n (ss.map Value.string ++ ys.map Value.string)) (hn : n = ss.length + ys.length) : WdW w vs v' (ss ++ ys) W' :=
  ⟨⟨h.1.1.trans ((grown_low (C := w.heap.size + 1) hg h.2 (Nat.le_refl _) h.size).mono (Nat.le_succ _)), grown_box h.1.2 hg h.2 (Nat.lt_succ_self _)⟩, OwnW.app ho hn⟩
theorem grown_hold {w w' : World} {B Y T n : Nat} {v : Value} {vs xs : Array Value} {ys : List Value} (h : HoldV w Y vs T) (hg : w.grownBy w' v.ownBlock) (ho : w.ownsRow B 9 1 v n ys) (hT : T ≠ 9) : HoldV w' Y vs T := by
  refine (hg.block Y h.lt (fun e => ?_)).trans h
  rcases ho.2 with ⟨rfl, _⟩ | ⟨g, cap, cur, rfl, _, hgc, _⟩
  · cases e
  · have e2 : Y = g := by cases e; rfl
    subst e2
    rw [HoldV] at h
    rw [h] at hgc
    simp only [Option.some.injEq, Obj.cells.injEq] at hgc
    exact hT hgc.2.1
theorem one_str (w : World) (x : ByteArray) (t : Nat) : ∀ (j : Nat) u, ([x].map Value.string)[j]? = some u → (w.alloc (.cells #[.string x] t)).cell? ((⟨w.heap.size, 0, none⟩ : Addr).add j) = some u := by
  intro j u hu
  match j with
  | 0 =>
    simp at hu
    subst hu
    exact cell_of_row _ w.heap.size 0 #[.string x] t (0, 0) (heap_alloc_new w _)
  | j + 1 => simp at hu

set_option maxHeartbeats 32000000 in
theorem segWords_walk (x0 x1 x2 x3 x4 x5 x6 : Int) (x7 : Bool) (x8 : Int) (x9 : Bool) (a0 : Option Addr) (n0 c0 : Nat) (a1 : Option Addr) (n1 c1 : Nat) (z zs : List Int) (w : World) (hz : z.length = n0 * 2) (ha : ArrI w a0 z) (m0 : n0 ≤ 1048576) (hn : zs.length = n1) (hb : Arr w a1 zs) (h : sgOK x0 x1 x2 x3 x4 x5 x6 x7 x8 n0 z = true) (hl : n1 ≤ 4000) (ht : Lib.TabBelow Tryd.prog w.heap.size w "internal/strconv.uint64pow10" .u64 Lib.pow10Tab) :
    Calls Tryd.prog 34 #[.agg #[.int .i64 x0, .int .i64 x1, .int .i64 x2, .int .i64 x3, .int .i64 x4, .int .i64 x5, .int .i64 x6, .bool x7, .int .i64 x8, .bool x9, .slice a0 n0 c0, .slice a1 n1 c1]] w fun e w' => ∃ u, e = .returned u ∧ OwnW w' (w.heap.size + 1) u (sgWd x0 x1 x2 x3 x4 x5 x6 x7 x8 x9 n0 z zs) ∧ Below w.heap.size w w' := by
  obtain ⟨i, hi, hz0, hz1, hz2⟩ := info_parts Tryd.infoS
  have HI := hide hi
  have HZ0 := hide hz0
  have HZ1 := hide hz1
  have HZ2 := hide hz2
  clear hi hz0 hz1 hz2
  have H0 : Hid (ShW w #[.int .i64 x0, .int .i64 x1, .int .i64 x2, .int .i64 x3, .int .i64 x4, .int .i64 x5, .int .i64 x6, .bool x7, .int .i64 x8, .bool x9, .slice a0 n0 c0, .slice a1 n1 c1] (w.alloc (.cells #[.int .i64 x0, .int .i64 x1, .int .i64 x2, .int .i64 x3, .int .i64 x4, .int .i64 x5, .int .i64 x6, .bool x7, .int .i64 x8, .bool x9, .slice a0 n0 c0, .slice a1 n1 c1] sgT))) := hide ⟨(Below.refl w.heap.size w).alloc (Nat.le_refl _) _, heap_alloc_new _ _⟩
  have HA := hide ha
  have HB := hide hb
  have HZ := hide hz
  have HN := hide hn
  have HT := hide ht
  obtain ⟨p0, p1, p2, p3, p4, p5, p6, p8, p3n, pS⟩ := sgOK_parts h
  have HZB : Hid (∀ q, 0 ≤ z.getD q 0 ∧ z.getD q 0 ≤ 4294967295) := hide (sg_zb pS)
  clear hz ha hb hn ht h
  go_enter Tryd.func34, Tryd.ntmps34
  go_upto_region 1 with fail
  generalize w.alloc (.cells #[.int .i64 x0, .int .i64 x1, .int .i64 x2, .int .i64 x3, .int .i64 x4, .int .i64 x5, .int .i64 x6, .bool x7, .int .i64 x8, .bool x9, .slice a0 n0 c0, .slice a1 n1 c1] sgT) = W0 at *
  have hK := ShW.next H0.out ((Below.refl _ _).drew)
  have CA := hide (fun W (hb : Below w.heap.size w W) => showDec_walk x0 (by omega) (by omega) W (HT.out W hb))
  have CB := hide (fun W (hb : Below w.heap.size w W) => showDec_walk x1 (by omega) (by omega) W (HT.out W hb))
  have CC := hide (fun W (hb : Below w.heap.size w W) => showDec_walk x2 (by omega) (by omega) W (HT.out W hb))
  have CD := hide (fun W (hb : Below w.heap.size w W) => showDec_walk x3 (by omega) (by omega) W (HT.out W hb))
  have CE := hide (fun W (hb : Below w.heap.size w W) => showDec_walk x5 (by omega) (by omega) W (HT.out W hb))
  have CF := hide (fun W => showFlags_walk x4 W)
  have s0 := decT_size x0 (by omega)
  have s1 := decT_size x1 (by omega)
  have e1 : Hid ([(decT x0 ++ (⟨#[62]⟩ : ByteArray)) ++ decT x1, flT x4, decT x2, decT x3, decT x5] = wdA x0 x1 x4 x2 x3 x5) := hide rfl
  generalize decT x0 = t0 at *
  generalize decT x1 = t1 at *
  generalize decT x2 = t2 at *
  generalize decT x3 = t3 at *
  generalize decT x5 = t5 at *
  generalize flT x4 = t4 at *
  have hKX : ∀ wq, ShW w #[.int .i64 x0, .int .i64 x1, .int .i64 x2, .int .i64 x3, .int .i64 x4, .int .i64 x5, .int .i64 x6, .bool x7, .int .i64 x8, .bool x9, .slice a0 n0 c0, .slice a1 n1 c1] wq → wq.cell? ⟨w.heap.size, 0, none⟩ = some (.int .i64 x0) ∧ wq.cell? ⟨w.heap.size, 1, none⟩ = some (.int .i64 x1) ∧ wq.cell? ⟨w.heap.size, 2, none⟩ = some (.int .i64 x2) ∧ wq.cell? ⟨w.heap.size, 3, none⟩ = some (.int .i64 x3) ∧ wq.cell? ⟨w.heap.size, 4, none⟩ = some (.int .i64 x4) ∧ wq.cell? ⟨w.heap.size, 5, none⟩ = some (.int .i64 x5) := fun wq hs => ⟨hs.2.cell 0 _ rfl, hs.2.cell 1 _ rfl, hs.2.cell 2 _ rfl, hs.2.cell 3 _ rfl, hs.2.cell 4 _ rfl, hs.2.cell 5 _ rfl⟩
  clear H0
  refine wp_region_lex (fun w' => ShW w #[.int .i64 x0, .int .i64 x1, .int .i64 x2, .int .i64 x3, .int .i64 x4, .int .i64 x5, .int .i64 x6, .bool x7, .int .i64 x8, .bool x9, .slice a0 n0 c0, .slice a1 n1 c1] w') ((0, true) :: (1, true) :: (4, true) :: (5, true) :: (8, true) :: (9, true) :: (11, true) :: (12, true) :: (14, true) :: (15, true) :: (17, true) :: (18, true) :: (2, false) :: (3, true) :: (6, false) :: (7, true) :: (10, false) :: (13, false) :: (16, false) :: (19, false) :: (20, false) :: (21, true) :: []) (by kernel_rfl) (by kernel_rfl) (by kernel_rfl) rfl hK ?_
  repeat (first
    | (refine wpLex_take ?_ rfl (by rfl) (fun _ _ _ h => h) ?_ ?_; rotate_left; (intro wq hSw; (try dsimp only at hSw); obtain ⟨q0, q1, q2, q3, q4, q5⟩ := hKX _ hSw; first | (go_simp; done) | (go_simp; with_reducible rfl) | (go_simp; rw [if_neg (by (try simp only [ByteArray.size_append]); omega)])); simp only [Act.put, List.setIfInBounds_toArray, List.set_cons_zero, List.set_cons_succ])
    | (refine wpLex_act rfl (by rfl) ?_; intro KK hKK; go_simp; (first
        | (go_at_call 77; refine (CA.out _ hK.1).mono ?_; clear CA; rintro e w' ⟨rfl, hbx⟩; have hK := ShW.next hK hbx; clear hbx)
        | (go_at_call 77; refine (CB.out _ hK.1).mono ?_; clear CB; rintro e w' ⟨rfl, hbx⟩; have hK := ShW.next hK hbx; clear hbx)
        | (go_at_call 77; refine (CC.out _ hK.1).mono ?_; clear CC; rintro e w' ⟨rfl, hbx⟩; have hK := ShW.next hK hbx; clear hbx)
        | (go_at_call 77; refine (CD.out _ hK.1).mono ?_; clear CD; rintro e w' ⟨rfl, hbx⟩; have hK := ShW.next hK hbx; clear hbx)
        | (go_at_call 77; refine (CE.out _ hK.1).mono ?_; clear CE; rintro e w' ⟨rfl, hbx⟩; have hK := ShW.next hK hbx; clear hbx)
        | (go_at_call 78; refine (CF.out _).mono ?_; clear CF; rintro e w' ⟨rfl, hbx⟩; have hK := ShW.next hK hbx; clear hbx)); (try go_wp2_with fail); refine hKK.out _ _ hK ?_; clear hKK KK; try simp only [Act.put, List.setIfInBounds_toArray, List.set_cons_zero, List.set_cons_succ]))
  rename World => Wn
  have HWL : Hid (OwnW (Wn.alloc (.cells #[.string ((t0 ++ (⟨#[62]⟩ : ByteArray)) ++ t1), .string t4, .string t2, .string t3, .string t5] 9)) (w.heap.size + 1) (.slice (some ⟨Wn.heap.size, 0, none⟩) 5 5) [(t0 ++ (⟨#[62]⟩ : ByteArray)) ++ t1, t4, t2, t3, t5]) := hide (OwnW.lit Wn _ [(t0 ++ (⟨#[62]⟩ : ByteArray)) ++ t1, t4, t2, t3, t5] hK.2.lt (by simp [maxLen]))
  have hK2 := ShW.next hK ((Below.refl Wn.heap.size Wn).alloc (Nat.le_refl _) (.cells #[.string ((t0 ++ (⟨#[62]⟩ : ByteArray)) ++ t1), .string t4, .string t2, .string t3, .string t5] 9))
  refine wpLex_act rfl (by rfl) ?_
  intro KK hKK
  go_simp
  refine hKK.out _ _ hK2 ?_
  clear hKK KK
  try simp only [Act.put, List.setIfInBounds_toArray, List.set_cons_zero, List.set_cons_succ]
  refine wpLex_take ?_ rfl (by rfl) (fun _ _ _ h => h) ?_ ?_
  rotate_left
  · intro wq hSw; go_simp; try with_reducible rfl
  try simp only [Act.put, List.setIfInBounds_toArray, List.set_cons_zero, List.set_cons_succ]
  refine wpLex_nil ?_
  rw [e1.out] at HWL
  have HK : Hid (WdW w #[.int .i64 x0, .int .i64 x1, .int .i64 x2, .int .i64 x3, .int .i64 x4, .int .i64 x5, .int .i64 x6, .bool x7, .int .i64 x8, .bool x9, .slice a0 n0 c0, .slice a1 n1 c1] (.slice (some ⟨Wn.heap.size, 0, none⟩) 5 5) (wdA x0 x1 x4 x2 x3 x5) _) := hide ⟨hK2, HWL.out⟩
  have hlA : (wdA x0 x1 x4 x2 x3 x5).length = 5 := rfl
  clear hK hK2 HWL hKX e1 s0 s1
  generalize Wn.alloc (.cells #[.string ((t0 ++ (⟨#[62]⟩ : ByteArray)) ++ t1), .string t4, .string t2, .string t3, .string t5] 9) = W1 at *
  generalize (Value.slice (some ⟨Wn.heap.size, 0, none⟩) 5 5) = v1 at *
  generalize hg9 : wdA x0 x1 x4 x2 x3 x5 = ssA at *
  have HXA := hide hg9
  clear hg9
  have k6 := HK.out.1.2.cell 6 _ rfl
  go_upto_if 29 with fail
  go_cut [3] (fun s3 wx => Hid (WdW w #[.int .i64 x0, .int .i64 x1, .int .i64 x2, .int .i64 x3, .int .i64 x4, .int .i64 x5, .int .i64 x6, .bool x7, .int .i64 x8, .bool x9, .slice a0 n0 c0, .slice a1 n1 c1] s3 (ssA ++ wdM x6) wx))
  case first =>
    by_cases h6 : x6 = 0
    · subst h6
      clear k6
      go_wp2_with fail
      go_meet
      rw [show ssA ++ wdM 0 = ssA by unfold wdM; simp]
      exact HK
    · have hb6 : (x6 != 0) = true := by simpa using h6
      have H6 := hide h6
      have CA := hide (fun W (hb : Below w.heap.size w W) => showDec_walk x6 (by omega) (by omega) W (HT.out W hb))
      have e6 : Hid (wdM x6 = [wMss, decT x6]) := hide (by unfold wdM; rw [if_neg H6.out])
      generalize decT x6 = t6 at *
      clear h6
      go_wp2_with fail
      refine (CA.out _ HK.out.1.1).mono ?_
      rintro e w6 ⟨rfl, hb6⟩
      have HK6 := hide ((HK.out.next hb6).next ((Below.refl w6.heap.size w6).alloc (Nat.le_refl _) (.cells #[.string wMss, .string t6] 9)))
      clear hb6 CA HK k6
      go_wp2_with (first | (at_builtin; refine wpList_append_own _ rfl _ _ 56 rfl (w.heap.size + 1) 9 i _ 1 16 Tryd.underlying56 HI.out HZ0.out HZ1.out HZ2.out rfl (by decide) v1 _ _ rfl HK6.out.2 ⟨w6.heap.size, 0, none⟩ 2 2 ([wMss, t6].map Value.string) rfl rfl (two_strs _ _ _ _) (strCells1 _) (by unfold maxLen; omega) (by omega) HK6.out.size ?_; intro v9 w9 hown hgrow hnil; have HX9 := hide (WdW.app HK6.out hgrow hown rfl); clear hown hgrow hnil))
      go_wp2_with fail
      go_meet
      rw [e6.out]
      exact HX9
  case rest =>
  clear HK k6
  have HKa := hcut
  clear hcut
  have hlM : (ssA ++ wdM x6).length ≤ 7 := by rw [List.length_append, hlA]; unfold wdM; split <;> simp
  generalize hg9 : ssA ++ wdM x6 = ssM at *
  have HXssM := hide hg9
  clear hg9
  have k7 := HKa.out.1.2.cell 7 _ rfl; have k8 := HKa.out.1.2.cell 8 _ rfl
  go_upto_if 37 with fail
  go_cut [3] (fun s3 wx => Hid (WdW w #[.int .i64 x0, .int .i64 x1, .int .i64 x2, .int .i64 x3, .int .i64 x4, .int .i64 x5, .int .i64 x6, .bool x7, .int .i64 x8, .bool x9, .slice a0 n0 c0, .slice a1 n1 c1] s3 (ssM ++ wdS x7 x8) wx))
  case first =>
    rcases (show x7 = false ∨ x7 = true by cases x7 <;> simp) with h7 | h7
    · subst h7
      clear k7 k8
      go_wp2_with fail
      go_meet
      rw [show ssM ++ wdS false x8 = ssM by unfold wdS; simp]
      exact HKa
    · subst h7
      have CA := hide (fun W (hb : Below w.heap.size w W) => showDec_walk x8 (by omega) (by omega) W (HT.out W hb))
      have e6 : Hid (wdS true x8 = [wScale, decT x8]) := hide rfl
      generalize decT x8 = t6 at *
      go_wp2_with fail
      refine (CA.out _ HKa.out.1.1).mono ?_
      rintro e w6 ⟨rfl, hb6⟩
      have HK6 := hide ((HKa.out.next hb6).next ((Below.refl w6.heap.size w6).alloc (Nat.le_refl _) (.cells #[.string wScale, .string t6] 9)))
      clear hb6 CA HKa k7 k8
      go_wp2_with (first | (at_builtin; refine wpList_append_own _ rfl _ _ 56 rfl (w.heap.size + 1) 9 i _ 1 16 Tryd.underlying56 HI.out HZ0.out HZ1.out HZ2.out rfl (by decide) _ _ _ rfl HK6.out.2 ⟨w6.heap.size, 0, none⟩ 2 2 ([wScale, t6].map Value.string) rfl rfl (two_strs _ _ _ _) (strCells1 _) (by unfold maxLen; omega) (by omega) HK6.out.size ?_; intro v9 w9 hown hgrow hnil; have HX9 := hide (WdW.app HK6.out hgrow hown rfl); clear hown hgrow hnil))
      go_wp2_with fail
      go_meet
      rw [e6.out]
      exact HX9
  case rest =>
  clear HKa k7 k8
  have HKb := hcut
  clear hcut
  have hlS : (ssM ++ wdS x7 x8).length ≤ 9 := by rw [List.length_append]; unfold wdS; split <;> simp <;> omega
  generalize hg9 : ssM ++ wdS x7 x8 = ssS at *
  have HXssS := hide hg9
  clear hg9
  have k9 := HKb.out.1.2.cell 9 _ rfl
  go_upto_if 45 with fail
  go_cut [3] (fun s3 wx => Hid (WdW w #[.int .i64 x0, .int .i64 x1, .int .i64 x2, .int .i64 x3, .int .i64 x4, .int .i64 x5, .int .i64 x6, .bool x7, .int .i64 x8, .bool x9, .slice a0 n0 c0, .slice a1 n1 c1] s3 (ssS ++ wdO x9) wx))
  case first =>
    rcases (show x9 = false ∨ x9 = true by cases x9 <;> simp) with h7 | h7
    · subst h7
      clear k9
      go_wp2_with fail
      go_meet
      rw [show ssS ++ wdO false = ssS by unfold wdO; simp]
      exact HKb
    · subst h7
      have e6 : Hid (wdO true = [wSackok]) := hide rfl
      have HK6 := hide (HKb.out.next ((Below.refl wc.heap.size wc).alloc (Nat.le_refl _) (.cells #[.string wSackok] 9)))
      clear k9
      go_wp2_with (first | (at_builtin; refine wpList_append_own _ rfl _ _ 56 rfl (w.heap.size + 1) 9 i _ 1 16 Tryd.underlying56 HI.out HZ0.out HZ1.out HZ2.out rfl (by decide) _ _ _ rfl HK6.out.2 ⟨wc.heap.size, 0, none⟩ 1 1 ([wSackok].map Value.string) rfl rfl (one_str _ _ _) (strCells1 _) (by unfold maxLen; omega) (by omega) HK6.out.size ?_; intro v9 w9 hown hgrow hnil; have HX9 := hide (WdW.app HK6.out hgrow hown rfl); clear hown hgrow hnil))
      go_wp2_with fail
      go_meet
      rw [e6.out]
      exact HX9
  case rest =>
  clear HKb k9
  have HKc := hcut
  clear hcut
  have hlO : (ssS ++ wdO x9).length ≤ 10 := by rw [List.length_append]; unfold wdO; split <;> simp <;> omega
  generalize hg9 : ssS ++ wdO x9 = ssO at *
  have HXssO := hide hg9
  clear hg9
  have k10 := HKc.out.1.2.cell 10 _ rfl
  go_wp2_with fail
  clear k10
  go_loopw [3, 52] (fun s t wx => ∃ k : Nat, k ≤ n0 ∧ t = .int .i64 (k : Int) ∧ Hid (WdW w #[.int .i64 x0, .int .i64 x1, .int .i64 x2, .int .i64 x3, .int .i64 x4, .int .i64 x5, .int .i64 x6, .bool x7, .int .i64 x8, .bool x9, .slice a0 n0 c0, .slice a1 n1 c1] s (ssO ++ wdK z k) wx)) (fun _ t _ => n0 - (intOf t).toNat)
  case atStart => exact ⟨0, Nat.zero_le _, rfl, by rw [show ssO ++ wdK z 0 = ssO by unfold wdK; simp]; exact HKc⟩
  case round =>
    obtain ⟨k, hk, rfl, HKd⟩ := hrel
    clear HKc
    have hlK := wdK_len z k
    by_cases hlt : k < n0
    · obtain ⟨bb, off, ea, hbs, _⟩ := HA.out (k * 2) (by rw [HZ.out]; omega)
      subst ea
      have ce0 : wr.cell? ⟨bb, off + k * 2, none⟩ = some (.int .i64 (z.getD (k * 2) 0)) := by
        obtain ⟨b', o', e, _, c⟩ := HA.out (k * 2) (by rw [HZ.out]; omega)
        cases e
        rw [HKd.out.1.1.cell (p := ⟨bb, off + k * 2, none⟩) hbs]; exact c
      have ce1 : wr.cell? ⟨bb, off + k * 2 + 1, none⟩ = some (.int .i64 (z.getD (k * 2 + 1) 0)) := by
        obtain ⟨b', o', e, _, c⟩ := HA.out (k * 2 + 1) (by rw [HZ.out]; omega)
        cases e
        rw [Nat.add_assoc, HKd.out.1.1.cell (p := ⟨bb, off + (k * 2 + 1), none⟩) hbs]; exact c
      have HE : Hid ((ssO ++ wdK z k) ++ [wSack, (decT (z.getD (k * 2) 0) ++ (⟨#[45]⟩ : ByteArray)) ++ decT (z.getD (k * 2 + 1) 0)] = ssO ++ wdK z (k + 1)) := hide (by rw [List.append_assoc]; rfl)
      have hz0 := HZB.out (k * 2)
      have hz1 := HZB.out (k * 2 + 1)
      generalize z.getD (k * 2) 0 = f0 at *
      generalize z.getD (k * 2 + 1) 0 = f1 at *
      have CA := hide (fun W (hb : Below w.heap.size w W) => showDec_walk f0 (by omega) (by omega) W (HT.out W hb))
      have CB := hide (fun W (hb : Below w.heap.size w W) => showDec_walk f1 (by omega) (by omega) W (HT.out W hb))
      have s0 := decT_size f0 (by omega)
      have s1 := decT_size f1 (by omega)
      generalize decT f0 = t0 at *
      generalize decT f1 = t1 at *
      have hlk2 : (ssO ++ wdK z k).length ≤ 10 + 2 * k := by rw [List.length_append]; omega
      generalize ssO ++ wdK z k = sk at *
      have hk2 : (k : Int) < (n0 : Int) := by omega
      have HY : Hid (HoldV (wr.alloc (.cells #[.int .i64 f0, .int .i64 f1] 53)) wr.heap.size #[.int .i64 f0, .int .i64 f1] 53) := hide (heap_alloc_new _ _)
      have HKe := hide (HKd.out.next ((Below.refl wr.heap.size wr).alloc (Nat.le_refl _) (.cells #[.int .i64 f0, .int .i64 f1] 53)))
      clear HKd
      go_upto_region 11 with fail
      generalize wr.alloc (.cells #[.int .i64 f0, .int .i64 f1] 53) = W2 at *
      generalize wr.heap.size = Y at *
      have hK : (ShW w #[.int .i64 x0, .int .i64 x1, .int .i64 x2, .int .i64 x3, .int .i64 x4, .int .i64 x5, .int .i64 x6, .bool x7, .int .i64 x8, .bool x9, .slice (some ⟨bb, off, none⟩) n0 c0, .slice a1 n1 c1] W2.drew ∧ HoldV W2.drew Y #[.int .i64 f0, .int .i64 f1] 53) := ⟨ShW.next HKe.out.1 ((Below.refl _ _).drew), HY.out.next ((Below.refl _ _).drew)⟩
      have hO := OwnW.next HKe.out.2 ((Below.refl W2.heap.size W2).drew)
      have hKX : ∀ wq, (ShW w #[.int .i64 x0, .int .i64 x1, .int .i64 x2, .int .i64 x3, .int .i64 x4, .int .i64 x5, .int .i64 x6, .bool x7, .int .i64 x8, .bool x9, .slice (some ⟨bb, off, none⟩) n0 c0, .slice a1 n1 c1] wq ∧ HoldV wq Y #[.int .i64 f0, .int .i64 f1] 53) → wq.cell? ⟨Y, 0, none⟩ = some (.int .i64 f0) ∧ wq.cell? ⟨Y, 1, none⟩ = some (.int .i64 f1) := fun wq hs => ⟨hs.2.cell 0 _ rfl, hs.2.cell 1 _ rfl⟩
      clear HKe HY
      refine wp_region_lex (fun w' => (ShW w #[.int .i64 x0, .int .i64 x1, .int .i64 x2, .int .i64 x3, .int .i64 x4, .int .i64 x5, .int .i64 x6, .bool x7, .int .i64 x8, .bool x9, .slice (some ⟨bb, off, none⟩) n0 c0, .slice a1 n1 c1] w' ∧ HoldV w' Y #[.int .i64 f0, .int .i64 f1] 53)) ((0, true) :: (1, true) :: (2, true) :: (5, true) :: (6, true) :: (3, false) :: (4, true) :: (7, false) :: (8, true) :: (9, false) :: (10, false) :: (11, true) :: []) (by kernel_rfl) (by kernel_rfl) (by kernel_rfl) rfl hK ?_
      repeat (first
        | (refine wpLex_take ?_ rfl (by rfl) (fun _ _ _ h => h) ?_ ?_; rotate_left; (intro wq hSw; (try dsimp only at hSw); obtain ⟨q0, q1⟩ := hKX _ hSw; first | (go_simp; done) | (go_simp; with_reducible rfl) | (go_simp; rw [if_neg (by (try simp only [ByteArray.size_append]); omega)])); simp only [Act.put, List.setIfInBounds_toArray, List.set_cons_zero, List.set_cons_succ])
        | (refine wpLex_act rfl (by rfl) ?_; intro KK hKK; go_simp; (first
            | (go_at_call 77; refine (CA.out _ hK.1.1).mono ?_; clear CA; rintro e w' ⟨rfl, hbx⟩; have hO := OwnW.next hO hbx; have hK : (ShW w #[.int .i64 x0, .int .i64 x1, .int .i64 x2, .int .i64 x3, .int .i64 x4, .int .i64 x5, .int .i64 x6, .bool x7, .int .i64 x8, .bool x9, .slice (some ⟨bb, off, none⟩) n0 c0, .slice a1 n1 c1] w' ∧ HoldV w' Y #[.int .i64 f0, .int .i64 f1] 53) := ⟨ShW.next hK.1 hbx, hK.2.next hbx⟩; clear hbx)
            | (go_at_call 77; refine (CB.out _ hK.1.1).mono ?_; clear CB; rintro e w' ⟨rfl, hbx⟩; have hO := OwnW.next hO hbx; have hK : (ShW w #[.int .i64 x0, .int .i64 x1, .int .i64 x2, .int .i64 x3, .int .i64 x4, .int .i64 x5, .int .i64 x6, .bool x7, .int .i64 x8, .bool x9, .slice (some ⟨bb, off, none⟩) n0 c0, .slice a1 n1 c1] w' ∧ HoldV w' Y #[.int .i64 f0, .int .i64 f1] 53) := ⟨ShW.next hK.1 hbx, hK.2.next hbx⟩; clear hbx)); (try go_wp2_with fail); refine hKK.out _ _ hK ?_; clear hKK KK; try simp only [Act.put, List.setIfInBounds_toArray, List.set_cons_zero, List.set_cons_succ]))
      rename World => Wn
      have hal : Below Wn.heap.size Wn (Wn.alloc (.cells #[.string wSack, .string ((t0 ++ (⟨#[45]⟩ : ByteArray)) ++ t1)] 9)) := (Below.refl _ _).alloc (Nat.le_refl _) _
      have hO2 := OwnW.next hO hal
      have hK2 : (ShW w #[.int .i64 x0, .int .i64 x1, .int .i64 x2, .int .i64 x3, .int .i64 x4, .int .i64 x5, .int .i64 x6, .bool x7, .int .i64 x8, .bool x9, .slice (some ⟨bb, off, none⟩) n0 c0, .slice a1 n1 c1] (Wn.alloc (.cells #[.string wSack, .string ((t0 ++ (⟨#[45]⟩ : ByteArray)) ++ t1)] 9)) ∧ HoldV (Wn.alloc (.cells #[.string wSack, .string ((t0 ++ (⟨#[45]⟩ : ByteArray)) ++ t1)] 9)) Y #[.int .i64 f0, .int .i64 f1] 53) := ⟨ShW.next hK.1 hal, hK.2.next hal⟩
      refine wpLex_act rfl (by rfl) ?_
      intro KK hKK
      go_simp
      refine hKK.out _ _ hK2 ?_
      clear hKK KK
      try simp only [Act.put, List.setIfInBounds_toArray, List.set_cons_zero, List.set_cons_succ]
      have HS2 : Hid (WdW w #[.int .i64 x0, .int .i64 x1, .int .i64 x2, .int .i64 x3, .int .i64 x4, .int .i64 x5, .int .i64 x6, .bool x7, .int .i64 x8, .bool x9, .slice (some ⟨bb, off, none⟩) n0 c0, .slice a1 n1 c1] _ sk (Wn.alloc (.cells #[.string wSack, .string ((t0 ++ (⟨#[45]⟩ : ByteArray)) ++ t1)] 9))) := hide ⟨hK2.1, hO2⟩
      have HY2 := hide hK2.2
      clear hK hK2 hO hO2 hal hKX
      refine wpLex_act rfl (by rfl) ?_
      intro KK hKK
      refine wp_append_own _ _ _ 56 rfl (w.heap.size + 1) 9 i _ 1 16 Tryd.underlying56 HI.out HZ0.out HZ1.out HZ2.out rfl (by decide) _ _ _ rfl HS2.out.2 ⟨Wn.heap.size, 0, none⟩ 2 2 ([wSack, (t0 ++ (⟨#[45]⟩ : ByteArray)) ++ t1].map Value.string) rfl rfl (two_strs _ _ _ _) (strCells1 _) (by unfold maxLen; omega) (by omega) HS2.out.size ?_
      intro v9 w9 hown hgrow hnil
      have HX9 := hide (WdW.app HS2.out hgrow hown rfl)
      have hK9 : (ShW w #[.int .i64 x0, .int .i64 x1, .int .i64 x2, .int .i64 x3, .int .i64 x4, .int .i64 x5, .int .i64 x6, .bool x7, .int .i64 x8, .bool x9, .slice (some ⟨bb, off, none⟩) n0 c0, .slice a1 n1 c1] w9 ∧ HoldV w9 Y #[.int .i64 f0, .int .i64 f1] 53) := ⟨HX9.out.1, grown_hold (xs := #[]) HY2.out hgrow HS2.out.2 (by decide)⟩
      clear hown hgrow hnil HS2 HY2
      refine hKK.out _ _ hK9 ?_
      clear hKK KK
      try simp only [Act.put, List.setIfInBounds_toArray, List.set_cons_zero, List.set_cons_succ]
      refine wpLex_take ?_ rfl (by rfl) (fun _ _ _ h => h) ?_ ?_
      rotate_left
      · intro wq hSw; go_simp; try with_reducible rfl
      try simp only [Act.put, List.setIfInBounds_toArray, List.set_cons_zero, List.set_cons_succ]
      refine wpLex_nil ?_
      clear hK9
      rw [HE.out] at HX9
      go_wp2_with fail
      exact ⟨⟨k + 1, by omega, by go_num, HX9⟩, by simp [intOf]; omega⟩
    · obtain rfl : k = n0 := by omega
      have hlk2 : (ssO ++ wdK z k).length ≤ 10 + 2 * k := by rw [List.length_append]; omega
      generalize hg9 : ssO ++ wdK z k = sk at *
      have HXK := hide hg9
      clear hg9
      have HTT : Hid (sgWd x0 x1 x2 x3 x4 x5 x6 x7 x8 x9 k z zs = sk ++ wdD zs) := hide (by unfold sgWd; rw [HXA.out, HXssM.out, HXssS.out, HXssO.out, HXK.out])
      have k11 := HKd.out.1.2.cell 11 _ rfl
      by_cases h0 : n1 = 0
      · have HE : Hid (wdD zs = []) := hide (by unfold wdD; rw [if_pos (List.length_eq_zero_iff.1 (by rw [HN.out]; exact h0))])
        subst h0
        go_wp2_with fail
        go_ret
        refine ⟨_, rfl, ?_, HKd.out.1.1⟩
        rw [HTT.out, HE.out, List.append_nil]
        exact HKd.out.2
      · have HE : Hid (wdD zs = [wData, strB (hexL zs)]) := hide (by unfold wdD; rw [if_neg (fun e => h0 (by rw [← HN.out, e]; rfl))])
        have hn0 : (0 : Int) < (n1 : Int) := by omega
        have CX := hide (fun W (hb : Below w.heap.size w W) => showHex_walk a1 n1 c1 zs W HN.out (HB.out.below hb (Nat.le_refl _)) hl)
        generalize strB (hexL zs) = tx at *
        go_wp2_with fail
        refine (CX.out _ HKd.out.1.1).mono ?_
        rintro e w6 ⟨rfl, hb6⟩
        have HK6 := hide ((HKd.out.next hb6).next ((Below.refl w6.heap.size w6).alloc (Nat.le_refl _) (.cells #[.string wData, .string tx] 9)))
        clear hb6 CX HKd k11
        go_wp2_with (first | (at_builtin; refine wpList_append_own _ rfl _ _ 56 rfl (w.heap.size + 1) 9 i _ 1 16 Tryd.underlying56 HI.out HZ0.out HZ1.out HZ2.out rfl (by decide) _ _ _ rfl HK6.out.2 ⟨w6.heap.size, 0, none⟩ 2 2 ([wData, tx].map Value.string) rfl rfl (two_strs _ _ _ _) (strCells1 _) (by unfold maxLen; omega) (by omega) HK6.out.size ?_; intro v9 w9 hown hgrow hnil; have HX9 := hide (WdW.app HK6.out hgrow hown rfl); clear hown hgrow hnil))
        go_wp2_with fail
        go_ret
        refine ⟨_, rfl, ?_, HX9.out.1.1⟩
        rw [HTT.out, HE.out]
        exact HX9.out.2
end Go.Proofs.YtcnfnimgpiaamaaDoor
