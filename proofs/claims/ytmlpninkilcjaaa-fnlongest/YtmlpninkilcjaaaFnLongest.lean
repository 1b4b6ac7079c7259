/-
At every input the law FnLongest of the landed program answers true, and its arguments read afterwards as before.
No conditions.
-/
import Derived.Test.YtmlpninkilcjaaaRows
import Derived.WalkKit
import Derived.ProofKit
import Derived.OpenShut
import Derived.Test.YtmlpninkilcjaaaLrg
import Derived.Test.YtmlpninkilcjaaaRows
import Derived.ShutString
import Derived.ChangeOld
import Derived.Below
namespace Go.Proofs.Ytmlpninkilcjaaa
open Go.ChangeShapes Go.WideShapes Go.ChangeAt Go.RowKit
set_option linter.unusedVariables false
set_option maxRecDepth 100000
/-- What the walk is told of a slice of integers that came in: nil, or a row of 'cap' cells, the first 'len' of them its elements. -/
def IsRow (k : IntKind) (w : World) (a : Option Addr) (len cap : Nat) (zs : List Int) : Prop :=
  (a = none ∧ len = 0 ∧ cap = 0 ∧ zs = []) ∨
  ∃ x, a = some x ∧ len ≤ cap ∧ cap ≤ maxLen ∧ zs.length = cap ∧ (∀ i, i < zs.length → w.cell? (x.add i) = some (.int k (zs.getD i 0))) ∧ ∀ n ∈ zs, (Lit.int k n).wf = true
theorem cell_lt {w : World} {b o : Nat} {v : Value} (h : w.cell? ⟨b, o, none⟩ = some v) : b < w.heap.size := by
  by_cases hb : b < w.heap.size
  · exact hb
  · exfalso
    unfold World.cell? at h
    simp [Array.getElem?_eq_none (Nat.le_of_not_lt hb)] at h
theorem IsRow.arr {w : World} {a : Option Addr} {len cap : Nat} {zs : List Int} (h : IsRow .u8 w a len cap zs) : ∃ ys : List Int, ys.length = len ∧ Arr w a ys := by
  rcases h with ⟨rfl, rfl, rfl, rfl⟩ | ⟨x, rfl, hl, hm, hz, hcell, hwz⟩
  · exact ⟨[], rfl, by simp, fun j hj => by simp at hj⟩
  · refine ⟨zs.take len, by simp; omega, ?_, ?_⟩
    · intro z hz'
      have := hwz z (List.mem_of_mem_take hz')
      simpa [Lit.wf, IntKind.min, IntKind.max, IntKind.signed, IntKind.bits] using this
    · intro j hj
      have hj' : j < len := by simp at hj; omega
      obtain ⟨b, off, rfl, hc⟩ := ints_at hcell (by omega)
      have h1 := hc j (by omega)
      refine ⟨b, off, rfl, cell_lt h1, ?_⟩
      rw [h1, List.getD_eq_getElem?_getD, List.getD_eq_getElem?_getD, List.getElem?_take, if_pos hj']

theorem news_ival {W : World} {B e n g off cap : Nat} {ys : List Int} (h : OwnI W B e 5 (.slice (some ⟨g, off, none⟩) n cap) n ys) : ∀ (j : Nat) u, (ival ys)[j]? = some u → W.cell? ((⟨g, off, none⟩ : Addr).add j) = some u := by
  intro j u hu
  have hj : j < ys.length := by have := (List.getElem?_eq_some_iff.1 hu).1; rw [ival_len] at this; exact this
  rw [Addr.add_lit, h.cell j hj, ← ival_get ys j hj]
  exact hu
theorem OwnI.formA {w : World} {B e k n : Nat} {v : Value} {zs : List Int} (h : OwnI w B e k v n zs) (hv : v ≠ .slice none 0 0) : ∃ g off cap, v = .slice (some ⟨g, off, none⟩) n cap ∧ B ≤ g ∧ g < w.heap.size ∧ n ≤ cap ∧ ArrI w (some ⟨g, off, none⟩) zs := by
  obtain ⟨a, cap, hv2, harr, hc⟩ := h.arr
  rcases h.form with ⟨h1, _⟩ | ⟨g, off, cap', h1, h2, h3, h4⟩
  · exact absurd h1 hv
  · rw [h1] at hv2
    cases hv2
    exact ⟨g, off, cap, h1, h2, h3, h4, harr⟩
/-- A route's five numbers. -/
abbrev subR (ys : List Int) (q : Nat) : List Int := [rA ys q, rB ys q, rV ys q, rL ys q, rM ys q]
theorem sub_cells {W : World} {B n g off cap q : Nat} {ys : List Int} (h : OwnI W B rtT8 5 (.slice (some ⟨g, off, none⟩) n cap) n ys) (hq : q < n) :
    W.cell? ⟨g, off + q * 5, none⟩ = some (.int .i64 (rA ys q)) ∧ W.cell? ⟨g, off + q * 5 + 1, none⟩ = some (.int .i64 (rB ys q)) ∧ W.cell? ⟨g, off + q * 5 + 2, none⟩ = some (.int .i64 (rV ys q)) ∧ W.cell? ⟨g, off + q * 5 + 3, none⟩ = some (.int .i64 (rL ys q)) ∧ W.cell? ⟨g, off + q * 5 + 4, none⟩ = some (.int .i64 (rM ys q)) := by
  have hl : ys.length = n * 5 := h.len
  refine ⟨h.cell (q * 5) (by omega), ?_, ?_, ?_, ?_⟩
  · rw [Nat.add_assoc]; exact h.cell (q * 5 + 1) (by omega)
  · rw [Nat.add_assoc]; exact h.cell (q * 5 + 2) (by omega)
  · rw [Nat.add_assoc]; exact h.cell (q * 5 + 3) (by omega)
  · rw [Nat.add_assoc]; exact h.cell (q * 5 + 4) (by omega)
theorem sub_arr {W : World} {B n g off cap q : Nat} {ys : List Int} (h : OwnI W B rtT8 5 (.slice (some ⟨g, off, none⟩) n cap) n ys) (hq : q < n) : ArrI W (some ⟨g, off + q * 5, none⟩) (subR ys q) := by
  obtain ⟨c0, c1, c2, c3, c4⟩ := sub_cells h hq
  have hg : g < W.heap.size := (ownsAt.lt h g rfl).2
  intro j hj
  refine ⟨g, off + q * 5, rfl, hg, ?_⟩
  have hj5 : j < 5 := hj
  match j, hj5 with
  | 0, _ => exact c0
  | 1, _ => exact c1
  | 2, _ => exact c2
  | 3, _ => exact c3
  | 4, _ => exact c4
theorem sub_code (ys : List Int) (q : Nat) : srC (subR ys q) 1 = if rtOK (rA ys q) (rB ys q) (rV ys q) (rL ys q) (rM ys q) then 0 else 1 := rfl
set_option maxHeartbeats 16000000 in
theorem walkLongest0 (a : Option Addr) (n cap : Nat) (zs : List Int) (w : World) (hn : zs.length = n) (ha : Arr w a zs) (hm : n ≤ 1048576) :
    Calls Try.prog 4 #[.slice a n cap] w fun e w' => e = .returned (.bool true) ∧ Below w.heap.size w w' := by
  obtain ⟨i, hi, hz0, hz1, hz2⟩ := info_parts Try.infoRt
  have HI := hide hi
  have HZ0 := hide hz0
  have HZ1 := hide hz1
  have HZ2 := hide hz2
  clear hi hz0 hz1 hz2
  have CD := hide (drawFind_walk a n cap zs w hn ha hm)
  have hm' : (n : Int) ≤ 1048576 := by omega
  clear ha hn
  go_enter Try.func4, Try.ntmps4
  go_wp2_with fail
  refine CD.out.mono ?_
  rintro e w1 ⟨gg, off, cap2, k, ys, d, rfl, hO, hk, hb1⟩
  have HB1 := hide hb1
  have hgl : gg < w1.heap.size := (ownsAt.lt hO gg rfl).2
  have hgw : w.heap.size ≤ gg := (ownsAt.lt hO gg rfl).1
  have HO1 := hide (hO.next ((Below.refl w1.heap.size w1).alloc (Nat.le_refl _) (.cells #[] rtT8)))
  have HE1 : Hid ((w1.alloc (.cells #[] rtT8)).ownsRow w1.heap.size rtT8 5 (.slice (some ⟨w1.heap.size, 0, none⟩) 0 0) 0 (ival [])) := hide ⟨rfl, .inr ⟨w1.heap.size, 0, #[], rfl, Nat.le_refl _, heap_alloc_new _ _, Nat.le_refl _, Nat.zero_le _, rfl, rfl⟩⟩
  have HS1 : Hid (w1.heap.size ≤ (w1.alloc (.cells #[] rtT8)).heap.size) := hide (by rw [World.size_alloc]; omega)
  have HBA : Hid (Below w1.heap.size w1 (w1.alloc (.cells #[] rtT8))) := hide ((Below.refl _ _).alloc (Nat.le_refl _) _)
  have hlen : ys.length = k * 5 := hO.len
  have hkc : k ≤ cap2 := by rcases hO.form with ⟨h, _⟩ | ⟨g', o', c', h, _, _, h4⟩
                            · cases h
                            · cases h; exact h4
  clear hO hb1 CD
  go_wp2_with (first | (at_builtin; refine wpList_append_own _ rfl _ _ 30 rfl w1.heap.size rtT8 i _ 5 40 Try.underlying30 HI.out HZ0.out HZ1.out HZ2.out rfl (by decide) _ 0 (ival []) rfl HE1.out ⟨gg, off, none⟩ k cap2 (ival ys) rfl (by rw [ival_len]; exact hlen) (news_ival HO1.out) (ival_one _) (by unfold maxLen; omega) (by omega) HS1.out ?_; intro v2 w2 hown hgrow hnil; rw [Nat.zero_add] at hown; obtain ⟨g2, off2, c2, rfl, hg2, hg2l, hc2, harr2⟩ := OwnI.formA (ownsAt.of_row hown) (fun e => by have := (hnil.1 e).1; cases this)))
  have HB2 : Hid (Below w.heap.size w w2) := hide ((HB1.out.trans (HBA.out.mono HB1.out.size)).trans (grown_under (g := w1.heap.size) hgrow HB1.out.size (Nat.le_trans HB1.out.size HS1.out)))
  have HO2 : Hid (OwnI w2 w.heap.size rtT8 5 (.slice (some ⟨gg, off, none⟩) k cap2) k ys) := hide (HO1.out.kept hgrow (.inr (fun e => by have e2 : some gg = some w1.heap.size := e; have := Option.some.inj e2; omega)))
  clear hown hgrow hnil HE1 HS1 HBA HO1 HB1
  have CF := hide (implFind_walk (some ⟨g2, off2, none⟩) k c2 ys d w2 hlen harr2 (by omega))
  clear harr2
  refine CF.out.mono ?_
  rintro e w3 ⟨rfl, hb3⟩
  have HB3 := hide (HB2.out.trans (hb3.mono HB2.out.size))
  have HO3 := hide (HO2.out.next hb3)
  clear hb3 CF HB2 HO2
  have HB4 : Hid (Below w.heap.size w (w3.alloc (.cells (bestV ys (rtBest ys d k)) rtT8))) := hide (HB3.out.trans ((((Below.refl w3.heap.size w3).alloc (Nat.le_refl _) _)).mono HB3.out.size))
  have HO4 := hide (HO3.out.next ((Below.refl w3.heap.size w3).alloc (Nat.le_refl _) (.cells (bestV ys (rtBest ys d k)) rtT8)))
  have HR4 : Hid (HoldV (w3.alloc (.cells (bestV ys (rtBest ys d k)) rtT8)) w3.heap.size (bestV ys (rtBest ys d k)) rtT8) := hide (heap_alloc_new _ _)
  have HRS : Hid (w.heap.size ≤ w3.heap.size) := hide HB3.out.size
  clear HB3 HO3
  go_wp2_with fail
  generalize hW : w3.alloc (.cells (bestV ys (rtBest ys d k)) 27) = W4 at *
  clear hW
  generalize w3.heap.size = R at *
  cases ho : rtBest ys d k with
  | none =>
    rw [ho] at HR4
    simp only [Option.isSome_none]
    have HNO : Hid (∀ i, i < k → rtC ys d i = false) := hide (fun i hi => best_none_all ho hi)
    clear ho
    go_loopw [7, 8, 9] (fun s7 s8 t w2 => ∃ q : Nat, q ≤ k ∧ s7 = .bool false ∧ s8 = .bool false ∧ t = .int .i64 q ∧ Hid (Below W4.heap.size W4 w2)) (fun _ _ t _ => k - (intOf t).toNat)
    case atStart => exact ⟨0, Nat.zero_le _, rfl, rfl, rfl, hide (Below.refl _ _)⟩
    case round =>
      obtain ⟨q, hq, rfl, rfl, rfl, HB⟩ := hrel
      by_cases hlt : q < k
      · have HOq := hide (HO4.out.next HB.out)
        obtain ⟨c0, c1, c2, c3, c4⟩ := sub_cells HOq.out hlt
        have HXA : Hid (Below wr.heap.size wr (wr.alloc (.cells (routeV ys q) rtT8))) := hide ((Below.refl _ _).alloc (Nat.le_refl _) _)
        have HX : Hid (HoldV (wr.alloc (.cells (routeV ys q) rtT8)) wr.heap.size (routeV ys q) rtT8) := hide (heap_alloc_new _ _)
        have CS := hide (specShow_walk (some ⟨gg, off + q * 5, none⟩) 1 (cap2 - q) (subR ys q) (wr.alloc (.cells (routeV ys q) rtT8)) rfl (sub_arr (HOq.out.next HXA.out) hlt) (by omega))
        rw [sub_code] at CS
        generalize srS (subR ys q) 1 = TX at *
        have CH := hide (fun W => specHas_walk (rA ys q) (rB ys q) d W)
        have hsl := sl_one gg off k cap2 q (by omega) hkc
        cases ho : rtOK (rA ys q) (rB ys q) (rV ys q) (rL ys q) (rM ys q) with
        | false =>
          rw [ho] at CS
          have CS' : Hid (Calls Try.prog 13 #[.slice (some ⟨gg, off + q * 5, none⟩) 1 (cap2 - q)] (wr.alloc (.cells (routeV ys q) rtT8)) fun e w' => e = .returned (.tuple #[.string TX, .int .i64 1]) ∧ Below (wr.alloc (.cells (routeV ys q) rtT8)).heap.size (wr.alloc (.cells (routeV ys q) rtT8)) w') := CS
          clear CS ho
          go_wp2_with (first | (go_at_call 13; refine CS'.out.mono ?_; rintro e w5 ⟨rfl, hb5⟩; have HX5 := HX.out.next hb5; have x0 := HX5.cell 0 (.int .i64 (rA ys q)) rfl; have x1 := HX5.cell 1 (.int .i64 (rB ys q)) rfl) | (go_at_call 14; refine (CH.out _).mono ?_; rintro e w6 ⟨rfl, hb6⟩))
          exact ⟨⟨q + 1, by omega, rfl, rfl, by go_num, hide (HB.out.trans ((HXA.out.trans (hb5.mono HXA.out.size)).mono HB.out.size))⟩, by simp [intOf]; omega⟩
        | true =>
          have HRC : Hid (rtC ys d q = hasB (rA ys q) (rB ys q) d) := hide (by unfold rtC; rw [ho, Bool.true_and])
          rw [ho] at CS
          have CS' : Hid (Calls Try.prog 13 #[.slice (some ⟨gg, off + q * 5, none⟩) 1 (cap2 - q)] (wr.alloc (.cells (routeV ys q) rtT8)) fun e w' => e = .returned (.tuple #[.string TX, .int .i64 0]) ∧ Below (wr.alloc (.cells (routeV ys q) rtT8)).heap.size (wr.alloc (.cells (routeV ys q) rtT8)) w') := CS
          clear CS ho
          cases hh : hasB (rA ys q) (rB ys q) d with
          | false =>
            rw [hh] at CH
            go_wp2_with (first | (go_at_call 13; refine CS'.out.mono ?_; rintro e w5 ⟨rfl, hb5⟩; have HX5 := HX.out.next hb5; have x0 := HX5.cell 0 (.int .i64 (rA ys q)) rfl; have x1 := HX5.cell 1 (.int .i64 (rB ys q)) rfl) | (go_at_call 14; refine (CH.out _).mono ?_; rintro e w6 ⟨rfl, hb6⟩))
            exact ⟨⟨q + 1, by omega, rfl, rfl, by go_num, hide ((HB.out.trans ((HXA.out.trans (hb5.mono HXA.out.size)).mono HB.out.size)).trans (hb6.mono (Nat.le_trans HB.out.size (Nat.le_trans HXA.out.size hb5.size))))⟩, by simp [intOf]; omega⟩
          | true =>
            exact absurd (HNO.out q hlt) (by rw [HRC.out, hh]; decide)
      · have hqk : q = k := by omega
        subst hqk
        have HRq := hide (HR4.out.next HB.out)
        have y0 := HRq.out.cell 0 (.int .i64 0) rfl
        have y1 := HRq.out.cell 1 (.int .i64 0) rfl
        have y2 := HRq.out.cell 2 (.int .i64 0) rfl
        have y3 := HRq.out.cell 3 (.int .i64 0) rfl
        have y4 := HRq.out.cell 4 (.int .i64 0) rfl
        have heq := eqRt 0 0 0 0 0 0 0 0 0 0
        go_wp2_with fail
        go_ret
        exact ⟨rfl, HB4.out.trans (HB.out.mono HB4.out.size)⟩
  | some j =>
    rw [ho] at HR4
    simp only [Option.isSome_some]
    have HBEST : Hid (rtBest ys d k = some j) := hide ho
    clear ho
    go_loopw [7, 8, 9] (fun s7 s8 t w2 => ∃ q : Nat, q ≤ k ∧ s7 = .bool (lgAny ys d q) ∧ s8 = .bool (lgIn ys d j q) ∧ t = .int .i64 q ∧ Hid (Below W4.heap.size W4 w2)) (fun _ _ t _ => k - (intOf t).toNat)
    case atStart => exact ⟨0, Nat.zero_le _, rfl, rfl, rfl, hide (Below.refl _ _)⟩
    case round =>
      obtain ⟨q, hq, rfl, rfl, rfl, HB⟩ := hrel
      by_cases hlt : q < k
      · have HOq := hide (HO4.out.next HB.out)
        obtain ⟨c0, c1, c2, c3, c4⟩ := sub_cells HOq.out hlt
        have HXA : Hid (Below wr.heap.size wr (wr.alloc (.cells (routeV ys q) rtT8))) := hide ((Below.refl _ _).alloc (Nat.le_refl _) _)
        have HX : Hid (HoldV (wr.alloc (.cells (routeV ys q) rtT8)) wr.heap.size (routeV ys q) rtT8) := hide (heap_alloc_new _ _)
        have CS := hide (specShow_walk (some ⟨gg, off + q * 5, none⟩) 1 (cap2 - q) (subR ys q) (wr.alloc (.cells (routeV ys q) rtT8)) rfl (sub_arr (HOq.out.next HXA.out) hlt) (by omega))
        rw [sub_code] at CS
        generalize srS (subR ys q) 1 = TX at *
        have CH := hide (fun W => specHas_walk (rA ys q) (rB ys q) d W)
        have hsl := sl_one gg off k cap2 q (by omega) hkc
        cases ho : rtOK (rA ys q) (rB ys q) (rV ys q) (rL ys q) (rM ys q) with
        | false =>
          have HSK : Hid (lgAny ys d (q + 1) = lgAny ys d q ∧ lgIn ys d j (q + 1) = lgIn ys d j q) := hide (by
            have hc : rtC ys d q = false := by unfold rtC; rw [ho]; simp
            exact ⟨by show (_ || rtC ys d q) = _; rw [hc, Bool.or_false], by show (_ || (rtC ys d q && _)) = _; rw [hc, Bool.false_and, Bool.or_false]⟩)
          rw [ho] at CS
          have CS' : Hid (Calls Try.prog 13 #[.slice (some ⟨gg, off + q * 5, none⟩) 1 (cap2 - q)] (wr.alloc (.cells (routeV ys q) rtT8)) fun e w' => e = .returned (.tuple #[.string TX, .int .i64 1]) ∧ Below (wr.alloc (.cells (routeV ys q) rtT8)).heap.size (wr.alloc (.cells (routeV ys q) rtT8)) w') := CS
          clear CS ho
          go_wp2_with (first | (go_at_call 13; refine CS'.out.mono ?_; rintro e w5 ⟨rfl, hb5⟩; have HX5 := HX.out.next hb5; have x0 := HX5.cell 0 (.int .i64 (rA ys q)) rfl; have x1 := HX5.cell 1 (.int .i64 (rB ys q)) rfl) | (go_at_call 14; refine (CH.out _).mono ?_; rintro e w6 ⟨rfl, hb6⟩))
          exact ⟨⟨q + 1, by omega, by rw [HSK.out.1], by rw [HSK.out.2], by go_num, hide (HB.out.trans ((HXA.out.trans (hb5.mono HXA.out.size)).mono HB.out.size))⟩, by simp [intOf]; omega⟩
        | true =>
          have HRC : Hid (rtC ys d q = hasB (rA ys q) (rB ys q) d) := hide (by unfold rtC; rw [ho, Bool.true_and])
          rw [ho] at CS
          have CS' : Hid (Calls Try.prog 13 #[.slice (some ⟨gg, off + q * 5, none⟩) 1 (cap2 - q)] (wr.alloc (.cells (routeV ys q) rtT8)) fun e w' => e = .returned (.tuple #[.string TX, .int .i64 0]) ∧ Below (wr.alloc (.cells (routeV ys q) rtT8)).heap.size (wr.alloc (.cells (routeV ys q) rtT8)) w') := CS
          clear CS ho
          cases hh : hasB (rA ys q) (rB ys q) d with
          | false =>
            have HSK : Hid (lgAny ys d (q + 1) = lgAny ys d q ∧ lgIn ys d j (q + 1) = lgIn ys d j q) := hide (by
              have hc : rtC ys d q = false := by rw [HRC.out, hh]
              exact ⟨by show (_ || rtC ys d q) = _; rw [hc, Bool.or_false], by show (_ || (rtC ys d q && _)) = _; rw [hc, Bool.false_and, Bool.or_false]⟩)
            rw [hh] at CH
            go_wp2_with (first | (go_at_call 13; refine CS'.out.mono ?_; rintro e w5 ⟨rfl, hb5⟩; have HX5 := HX.out.next hb5; have x0 := HX5.cell 0 (.int .i64 (rA ys q)) rfl; have x1 := HX5.cell 1 (.int .i64 (rB ys q)) rfl) | (go_at_call 14; refine (CH.out _).mono ?_; rintro e w6 ⟨rfl, hb6⟩))
            exact ⟨⟨q + 1, by omega, by rw [HSK.out.1], by rw [HSK.out.2], by go_num, hide ((HB.out.trans ((HXA.out.trans (hb5.mono HXA.out.size)).mono HB.out.size)).trans (hb6.mono (Nat.le_trans HB.out.size (Nat.le_trans HXA.out.size hb5.size))))⟩, by simp [intOf]; omega⟩
          | true =>
            have hc : rtC ys d q = true := by rw [HRC.out, hh]
            obtain ⟨j1, hj1, hj2, hj3⟩ := best_top hlt hc
            have hjj : j = j1 := by rw [HBEST.out] at hj1; cases hj1; rfl
            subst hjj
            have HBM := hide hj3
            clear hj1 hj3 hc
            rw [hh] at CH
            have heq := eqRt (rA ys q) (rB ys q) (rV ys q) (rL ys q) (rM ys q) (rA ys j) (rB ys j) (rV ys j) (rL ys j) (rM ys j)
            cases hsm : rtSame ys q j with
            | true =>
              rw [show (rA ys q == rA ys j && rB ys q == rB ys j && rV ys q == rV ys j && rL ys q == rL ys j && rM ys q == rM ys j) = true from hsm] at heq
              have HSK : Hid (lgAny ys d (q + 1) = true ∧ lgIn ys d j (q + 1) = true) := hide (by
                have hc : rtC ys d q = true := by rw [HRC.out, hh]
                exact ⟨by show (_ || rtC ys d q) = _; rw [hc, Bool.or_true], by show (_ || (rtC ys d q && rtSame ys q j)) = _; rw [hc, hsm]; simp⟩)
              clear hsm
              by_cases hbe : rB ys q = rB ys j
              · have hme : rM ys j ≤ rM ys q := HBM.out hbe
                have hbb : (rB ys q == rB ys j) = true := by simp [hbe]
                have HBE := hide hbe
                have hble : rB ys q ≤ rB ys j := hj2
                clear hbe hj2
                go_wp2_with (first | (go_at_call 13; refine CS'.out.mono ?_; rintro e w5 ⟨rfl, hb5⟩; have HX5 := HX.out.next hb5; have x0 := HX5.cell 0 (.int .i64 (rA ys q)) rfl; have x1 := HX5.cell 1 (.int .i64 (rB ys q)) rfl) | (go_at_call 14; refine (CH.out _).mono ?_; rintro e w6 ⟨rfl, hb6⟩; have HR6 := ((HR4.out.next HB.out).next (HXA.out.trans (hb5.mono HXA.out.size))).next hb6; have y0 := HR6.cell 0 (.int .i64 (rA ys j)) rfl; have y1 := HR6.cell 1 (.int .i64 (rB ys j)) rfl; have y2 := HR6.cell 2 (.int .i64 (rV ys j)) rfl; have y3 := HR6.cell 3 (.int .i64 (rL ys j)) rfl; have y4 := HR6.cell 4 (.int .i64 (rM ys j)) rfl; have HX6 := HX5.next hb6; have z0 := HX6.cell 0 (.int .i64 (rA ys q)) rfl; have z1 := HX6.cell 1 (.int .i64 (rB ys q)) rfl; have z2 := HX6.cell 2 (.int .i64 (rV ys q)) rfl; have z3 := HX6.cell 3 (.int .i64 (rL ys q)) rfl; have z4 := HX6.cell 4 (.int .i64 (rM ys q)) rfl))
                exact ⟨⟨q + 1, by omega, by rw [HSK.out.1], by rw [HSK.out.2], by go_num, hide ((HB.out.trans ((HXA.out.trans (hb5.mono HXA.out.size)).mono HB.out.size)).trans (hb6.mono (Nat.le_trans HB.out.size (Nat.le_trans HXA.out.size hb5.size))))⟩, by simp [intOf]; omega⟩
              · have hbb : (rB ys q == rB ys j) = false := by simp [hbe]
                have hble : rB ys q ≤ rB ys j := hj2
                clear hbe hj2
                go_wp2_with (first | (go_at_call 13; refine CS'.out.mono ?_; rintro e w5 ⟨rfl, hb5⟩; have HX5 := HX.out.next hb5; have x0 := HX5.cell 0 (.int .i64 (rA ys q)) rfl; have x1 := HX5.cell 1 (.int .i64 (rB ys q)) rfl) | (go_at_call 14; refine (CH.out _).mono ?_; rintro e w6 ⟨rfl, hb6⟩; have HR6 := ((HR4.out.next HB.out).next (HXA.out.trans (hb5.mono HXA.out.size))).next hb6; have y0 := HR6.cell 0 (.int .i64 (rA ys j)) rfl; have y1 := HR6.cell 1 (.int .i64 (rB ys j)) rfl; have y2 := HR6.cell 2 (.int .i64 (rV ys j)) rfl; have y3 := HR6.cell 3 (.int .i64 (rL ys j)) rfl; have y4 := HR6.cell 4 (.int .i64 (rM ys j)) rfl; have HX6 := HX5.next hb6; have z0 := HX6.cell 0 (.int .i64 (rA ys q)) rfl; have z1 := HX6.cell 1 (.int .i64 (rB ys q)) rfl; have z2 := HX6.cell 2 (.int .i64 (rV ys q)) rfl; have z3 := HX6.cell 3 (.int .i64 (rL ys q)) rfl; have z4 := HX6.cell 4 (.int .i64 (rM ys q)) rfl))
                exact ⟨⟨q + 1, by omega, by rw [HSK.out.1], by rw [HSK.out.2], by go_num, hide ((HB.out.trans ((HXA.out.trans (hb5.mono HXA.out.size)).mono HB.out.size)).trans (hb6.mono (Nat.le_trans HB.out.size (Nat.le_trans HXA.out.size hb5.size))))⟩, by simp [intOf]; omega⟩
            | false =>
              rw [show (rA ys q == rA ys j && rB ys q == rB ys j && rV ys q == rV ys j && rL ys q == rL ys j && rM ys q == rM ys j) = false from hsm] at heq
              have HSK : Hid (lgAny ys d (q + 1) = true ∧ lgIn ys d j (q + 1) = lgIn ys d j q) := hide (by
                have hc : rtC ys d q = true := by rw [HRC.out, hh]
                exact ⟨by show (_ || rtC ys d q) = _; rw [hc, Bool.or_true], by show (_ || (rtC ys d q && rtSame ys q j)) = _; rw [hc, hsm]; simp⟩)
              clear hsm
              by_cases hbe : rB ys q = rB ys j
              · have hme : rM ys j ≤ rM ys q := HBM.out hbe
                have hbb : (rB ys q == rB ys j) = true := by simp [hbe]
                have HBE := hide hbe
                have hble : rB ys q ≤ rB ys j := hj2
                clear hbe hj2
                go_wp2_with (first | (go_at_call 13; refine CS'.out.mono ?_; rintro e w5 ⟨rfl, hb5⟩; have HX5 := HX.out.next hb5; have x0 := HX5.cell 0 (.int .i64 (rA ys q)) rfl; have x1 := HX5.cell 1 (.int .i64 (rB ys q)) rfl) | (go_at_call 14; refine (CH.out _).mono ?_; rintro e w6 ⟨rfl, hb6⟩; have HR6 := ((HR4.out.next HB.out).next (HXA.out.trans (hb5.mono HXA.out.size))).next hb6; have y0 := HR6.cell 0 (.int .i64 (rA ys j)) rfl; have y1 := HR6.cell 1 (.int .i64 (rB ys j)) rfl; have y2 := HR6.cell 2 (.int .i64 (rV ys j)) rfl; have y3 := HR6.cell 3 (.int .i64 (rL ys j)) rfl; have y4 := HR6.cell 4 (.int .i64 (rM ys j)) rfl; have HX6 := HX5.next hb6; have z0 := HX6.cell 0 (.int .i64 (rA ys q)) rfl; have z1 := HX6.cell 1 (.int .i64 (rB ys q)) rfl; have z2 := HX6.cell 2 (.int .i64 (rV ys q)) rfl; have z3 := HX6.cell 3 (.int .i64 (rL ys q)) rfl; have z4 := HX6.cell 4 (.int .i64 (rM ys q)) rfl))
                exact ⟨⟨q + 1, by omega, by rw [HSK.out.1], by rw [HSK.out.2], by go_num, hide ((HB.out.trans ((HXA.out.trans (hb5.mono HXA.out.size)).mono HB.out.size)).trans (hb6.mono (Nat.le_trans HB.out.size (Nat.le_trans HXA.out.size hb5.size))))⟩, by simp [intOf]; omega⟩
              · have hbb : (rB ys q == rB ys j) = false := by simp [hbe]
                have hble : rB ys q ≤ rB ys j := hj2
                clear hbe hj2
                go_wp2_with (first | (go_at_call 13; refine CS'.out.mono ?_; rintro e w5 ⟨rfl, hb5⟩; have HX5 := HX.out.next hb5; have x0 := HX5.cell 0 (.int .i64 (rA ys q)) rfl; have x1 := HX5.cell 1 (.int .i64 (rB ys q)) rfl) | (go_at_call 14; refine (CH.out _).mono ?_; rintro e w6 ⟨rfl, hb6⟩; have HR6 := ((HR4.out.next HB.out).next (HXA.out.trans (hb5.mono HXA.out.size))).next hb6; have y0 := HR6.cell 0 (.int .i64 (rA ys j)) rfl; have y1 := HR6.cell 1 (.int .i64 (rB ys j)) rfl; have y2 := HR6.cell 2 (.int .i64 (rV ys j)) rfl; have y3 := HR6.cell 3 (.int .i64 (rL ys j)) rfl; have y4 := HR6.cell 4 (.int .i64 (rM ys j)) rfl; have HX6 := HX5.next hb6; have z0 := HX6.cell 0 (.int .i64 (rA ys q)) rfl; have z1 := HX6.cell 1 (.int .i64 (rB ys q)) rfl; have z2 := HX6.cell 2 (.int .i64 (rV ys q)) rfl; have z3 := HX6.cell 3 (.int .i64 (rL ys q)) rfl; have z4 := HX6.cell 4 (.int .i64 (rM ys q)) rfl))
                exact ⟨⟨q + 1, by omega, by rw [HSK.out.1], by rw [HSK.out.2], by go_num, hide ((HB.out.trans ((HXA.out.trans (hb5.mono HXA.out.size)).mono HB.out.size)).trans (hb6.mono (Nat.le_trans HB.out.size (Nat.le_trans HXA.out.size hb5.size))))⟩, by simp [intOf]; omega⟩
      · have hqk : q = k := by omega
        subst hqk
        have h7 : lgAny ys d q = true := lgAny_yes (best_facts HBEST.out).1 (best_facts HBEST.out).2
        have h8 : lgIn ys d j q = true := lgIn_yes (best_facts HBEST.out).1 (best_facts HBEST.out).2
        have HRq := hide (HR4.out.next HB.out)
        have HOq := hide (HO4.out.next HB.out)
        have HBq := hide (HB4.out.trans (HB.out.mono HB4.out.size))
        rw [h7, h8]
        clear h7 h8 HB HR4 HO4 HB4
        have y0 := HRq.out.cell 0 (.int .i64 (rA ys j)) rfl
        have y1 := HRq.out.cell 1 (.int .i64 (rB ys j)) rfl
        have y2 := HRq.out.cell 2 (.int .i64 (rV ys j)) rfl
        have y3 := HRq.out.cell 3 (.int .i64 (rL ys j)) rfl
        have y4 := HRq.out.cell 4 (.int .i64 (rM ys j)) rfl
        have HM : Hid (HoldV (wr.alloc (.cells #[.int .i64 (rA ys j), .int .i64 (rB ys j), .int .i64 167772177, .int .i64 (rL ys j), .int .i64 (rM ys j)] rtT8)) wr.heap.size #[.int .i64 (rA ys j), .int .i64 (rB ys j), .int .i64 167772177, .int .i64 (rL ys j), .int .i64 (rM ys j)] rtT8) := hide (heap_alloc_new _ _)
        have HBM : Hid (Below wr.heap.size wr (wr.alloc (.cells #[.int .i64 (rA ys j), .int .i64 (rB ys j), .int .i64 167772177, .int .i64 (rL ys j), .int .i64 (rM ys j)] rtT8))) := hide ((Below.refl _ _).alloc (Nat.le_refl _) _)
        have HRM := hide (HRq.out.next HBM.out)
        have HOM := hide (HOq.out.next HBM.out)
        have HBW := hide (HBq.out.trans (HBM.out.mono HBq.out.size))
        go_wp2_with fail
        clear y0 y1 y2 y3 y4 HRq HOq HBq HBM
        generalize hMM : wr.alloc (.cells #[.int .i64 (rA ys j), .int .i64 (rB ys j), .int .i64 167772177, .int .i64 (rL ys j), .int .i64 (rM ys j)] 27) = W at *
        clear hMM
        generalize wr.heap.size = M at *
        have hkp : 0 < q := by have := (best_facts HBEST.out).2; omega
        have HOL : Hid (∀ W', Below W.heap.size W W' → OwnI W' w.heap.size rtT8 5 (.slice (some ⟨gg, off, none⟩) q cap2) q ys) := hide (fun W' hb => HOM.out.next hb)
        have MS : Hid (∀ W', Below W.heap.size W W' →  W'.cell? ⟨M, 0, none⟩ = some (.int .i64 (rA ys j)) ∧ W'.cell? ⟨M, 1, none⟩ = some (.int .i64 (rB ys j)) ∧ W'.cell? ⟨M, 2, none⟩ = some (.int .i64 167772177) ∧ W'.cell? ⟨M, 3, none⟩ = some (.int .i64 (rL ys j)) ∧ W'.cell? ⟨M, 4, none⟩ = some (.int .i64 (rM ys j))) := hide (fun W' hb => ⟨(HM.out.next hb).cell 0 _ rfl, (HM.out.next hb).cell 1 _ rfl, (HM.out.next hb).cell 2 _ rfl, (HM.out.next hb).cell 3 _ rfl, (HM.out.next hb).cell 4 _ rfl⟩)
        have CF2 : Hid (∀ (W' : World) (g5 off5 c5 : Nat), ArrI W' (some ⟨g5, off5, none⟩) (ys ++ [rA ys j, rB ys j, 167772177, rL ys j, rM ys j]) → Calls Try.prog 9 #[.slice (some ⟨g5, off5, none⟩) (q + 1) c5, .int .i64 d] W' fun e w' => e = .returned (.tuple #[.agg #[.int .i64 (rA ys j), .int .i64 (rB ys j), .int .i64 (rV ys j), .int .i64 (rL ys j), .int .i64 (rM ys j)], .bool true]) ∧ Below W'.heap.size W' w') := hide (fun W' g5 off5 c5 harr => by
          have h := implFind_walk (some ⟨g5, off5, none⟩) (q + 1) c5 (ys ++ [rA ys j, rB ys j, 167772177, rL ys j, rM ys j]) d W' (by rw [List.length_append, hlen]; show q * 5 + 5 = (q + 1) * 5; omega) harr (by omega)
          obtain ⟨e1, e2, e3, e4, e5, e6⟩ := more_same hlen HBEST.out
          rw [e1] at h
          rw [show bestV (ys ++ [rA ys j, rB ys j, 167772177, rL ys j, rM ys j]) (some j) = #[.int .i64 (rA ys j), .int .i64 (rB ys j), .int .i64 (rV ys j), .int .i64 (rL ys j), .int .i64 (rM ys j)] by show #[Value.int .i64 (rA (ys ++ _) j), .int .i64 (rB (ys ++ _) j), .int .i64 (rV (ys ++ _) j), .int .i64 (rL (ys ++ _) j), .int .i64 (rM (ys ++ _) j)] = _; rw [e2, e3, e4, e5, e6]] at h
          exact h)
        go_cut [14, 15] from 107 to 117 (fun s14 s15 wx => ∃ C, s14 = .pointer (some ⟨C, 0, none⟩) ∧ s15 = .bool true ∧ Hid (Below W.heap.size W wx ∧ HoldV wx C #[.int .i64 (rA ys j), .int .i64 (rB ys j), .int .i64 (rV ys j), .int .i64 (rL ys j), .int .i64 (rM ys j)] rtT8))
        case first =>
          go_region_held3 (fun w' => w'.cell? ⟨M, 0, none⟩ = some (.int .i64 (rA ys j)) ∧ w'.cell? ⟨M, 1, none⟩ = some (.int .i64 (rB ys j)) ∧ w'.cell? ⟨M, 2, none⟩ = some (.int .i64 167772177) ∧ w'.cell? ⟨M, 3, none⟩ = some (.int .i64 (rL ys j)) ∧ w'.cell? ⟨M, 4, none⟩ = some (.int .i64 (rM ys j)))
            (with_reducible (first | exact MS.out _ (below_s5 HU3 hXN _ _ _ _ _) | exact MS.out _ HU3 | exact MS.out _ (below_a1 HU3 _) | assumption | exact MS.out _ (below_d0 _) | exact MS.out _ (below_d1 _ _) | exact MS.out _ (below_d2 _ _ _) | exact MS.out _ (below_d3 _ _ _ _) | exact MS.out _ HU2 | exact MS.out _ (below_a1 HU2 _) | exact MS.out _ HU1 | exact MS.out _ (below_a1 HU1 _) | exact MS.out _ (below_a2 HU1 _ _)))
            (first | (refine step_append_grows rfl (.tmp 108) (.tmp 109) 30 rfl rtT8 i _ 5 40 Try.underlying30 HI.out HZ0.out HZ1.out HZ2.out rfl (by decide) _ 0 0 [] rfl (by simp) rfl (by intro b hb j' u' hu; cases hu) ⟨gg, off, none⟩ q cap2 (ival ys) rfl (by rw [ival_len]; exact hlen) (news_ival (HOL.out _ (by first | exact below_d0 _ | exact below_d1 _ _ | exact below_d2 _ _ _ | exact below_d3 _ _ _ _))) (ival_one _) (by omega) (by unfold maxLen; omega) (by omega) ?_; intro v1 u1 hown1 hgrow1; rw [Nat.zero_add, List.nil_append] at hown1; have HU1 : Below W.heap.size W u1 := below_then1 hgrow1 (by first | exact below_d0 _ | exact below_d1 _ _ | exact below_d2 _ _ _ | exact below_d3 _ _ _ _); obtain ⟨S1, hSe, hown1, HN1, hS1⟩ := ex_base (W := W) hgrow1 hown1 (by first | exact below_d0 _ | exact below_d1 _ _ | exact below_d2 _ _ _ | exact below_d3 _ _ _ _); have hSe := hide hSe) | (go_at_call 9; refine (CF2.out _ _ _ _ (by first | exact harr5 | exact harr5.below ((Below.refl _ _).alloc (Nat.le_refl _) _) (Nat.le_refl _))).mono ?_; rintro e u3 ⟨rfl, hb3⟩; have HU3 : Below W.heap.size W u3 := below_then3 hb3 (by first | exact HU2 | exact below_a1 HU2 _); (first | (have hX : HoldV u3 _ zR rtT8 := (by with_reducible exact hold_n hb3 (hv0 _ _ _)); have hXN := ge_w hX HU3 (by first | omega | exact le_of_w HU1 | exact le_of_w HU2 | exact le_of_w1 HU1)) | (have hX : HoldV u3 _ zR rtT8 := (by with_reducible exact hold_n hb3 (hold_row hown1 hgrow2 (hold_g hgrow1 (hold_d (hv0 _ _ _))) (.inl (lt_wb' hgrow1 hSe.out (hold_d (hv0 _ _ _)))))); have hXN := ge_w hX HU3 (by first | omega | exact le_of_w HU1 | exact le_of_w HU2 | exact le_of_w1 HU1)) | (have hX : HoldV u3 _ zR rtT8 := (by with_reducible exact hold_n hb3 (hold_row hown1 hgrow2 (hold_under (hold_g hgrow1 (hold_d (hv0 _ _ _))) _) (.inl (lt_wb' hgrow1 hSe.out (hold_d (hv0 _ _ _)))))); have hXN := ge_w hX HU3 (by first | omega | exact le_of_w HU1 | exact le_of_w HU2 | exact le_of_w1 HU1)) | (have hX : HoldV u3 _ zR rtT8 := (by with_reducible exact hold_n hb3 (hold_row hown1 hgrow2 (hold_g hgrow1 (hold_d (hv1 _ _ _ _))) (.inl (lt_wb' hgrow1 hSe.out (hold_d (hv1 _ _ _ _)))))); have hXN := ge_w hX HU3 (by first | omega | exact le_of_w HU1 | exact le_of_w HU2 | exact le_of_w1 HU1)) | (have hX : HoldV u3 _ zR rtT8 := (by with_reducible exact hold_n hb3 (hold_row hown1 hgrow2 (hold_under (hold_g hgrow1 (hold_d (hv1 _ _ _ _))) _) (.inl (lt_wb' hgrow1 hSe.out (hold_d (hv1 _ _ _ _)))))); have hXN := ge_w hX HU3 (by first | omega | exact le_of_w HU1 | exact le_of_w HU2 | exact le_of_w1 HU1)) | (have hX : HoldV u3 _ zR rtT8 := (by with_reducible exact hold_n hb3 (hold_row hown1 hgrow2 (hold_g hgrow1 (hold_d (hv2 _ _ _ _ _))) (.inl (lt_wb' hgrow1 hSe.out (hold_d (hv2 _ _ _ _ _)))))); have hXN := ge_w hX HU3 (by first | omega | exact le_of_w HU1 | exact le_of_w HU2 | exact le_of_w1 HU1)) | (have hX : HoldV u3 _ zR rtT8 := (by with_reducible exact hold_n hb3 (hold_row hown1 hgrow2 (hold_under (hold_g hgrow1 (hold_d (hv2 _ _ _ _ _))) _) (.inl (lt_wb' hgrow1 hSe.out (hold_d (hv2 _ _ _ _ _)))))); have hXN := ge_w hX HU3 (by first | omega | exact le_of_w HU1 | exact le_of_w HU2 | exact le_of_w1 HU1)) | (have hX : HoldV u3 _ zR rtT8 := (by with_reducible exact hold_n hb3 (hold_row hown1 hgrow2 (hold_g hgrow1 (hold_d (hold_under (hv0 _ _ _) _))) (.inl (lt_wb' hgrow1 hSe.out (hold_d (hold_under (hv0 _ _ _) _)))))); have hXN := ge_w hX HU3 (by first | omega | exact le_of_w HU1 | exact le_of_w HU2 | exact le_of_w1 HU1)) | (have hX : HoldV u3 _ zR rtT8 := (by with_reducible exact hold_n hb3 (hold_row hown1 hgrow2 (hold_under (hold_g hgrow1 (hold_d (hold_under (hv0 _ _ _) _))) _) (.inl (lt_wb' hgrow1 hSe.out (hold_d (hold_under (hv0 _ _ _) _)))))); have hXN := ge_w hX HU3 (by first | omega | exact le_of_w HU1 | exact le_of_w HU2 | exact le_of_w1 HU1)) | (have hX : HoldV u3 _ zR rtT8 := (by with_reducible exact hold_n hb3 (hold_row hown1 hgrow2 (hold_g hgrow1 (hold_d (hold_under (hv1 _ _ _ _) _))) (.inl (lt_wb' hgrow1 hSe.out (hold_d (hold_under (hv1 _ _ _ _) _)))))); have hXN := ge_w hX HU3 (by first | omega | exact le_of_w HU1 | exact le_of_w HU2 | exact le_of_w1 HU1)) | (have hX : HoldV u3 _ zR rtT8 := (by with_reducible exact hold_n hb3 (hold_row hown1 hgrow2 (hold_under (hold_g hgrow1 (hold_d (hold_under (hv1 _ _ _ _) _))) _) (.inl (lt_wb' hgrow1 hSe.out (hold_d (hold_under (hv1 _ _ _ _) _)))))); have hXN := ge_w hX HU3 (by first | omega | exact le_of_w HU1 | exact le_of_w HU2 | exact le_of_w1 HU1)) | (have hX : HoldV u3 _ zR rtT8 := (by with_reducible exact hold_n hb3 (hold_row hown1 hgrow2 (hold_g hgrow1 (hold_d (hold_under ((hold_under (hv0 _ _ _) _)) _))) (.inl (lt_wb' hgrow1 hSe.out (hold_d (hold_under ((hold_under (hv0 _ _ _) _)) _)))))); have hXN := ge_w hX HU3 (by first | omega | exact le_of_w HU1 | exact le_of_w HU2 | exact le_of_w1 HU1)) | (have hX : HoldV u3 _ zR rtT8 := (by with_reducible exact hold_n hb3 (hold_row hown1 hgrow2 (hold_under (hold_g hgrow1 (hold_d (hold_under ((hold_under (hv0 _ _ _) _)) _))) _) (.inl (lt_wb' hgrow1 hSe.out (hold_d (hold_under ((hold_under (hv0 _ _ _) _)) _)))))); have hXN := ge_w hX HU3 (by first | omega | exact le_of_w HU1 | exact le_of_w HU2 | exact le_of_w1 HU1)) | (have hX : HoldV u3 _ zR rtT8 := (by with_reducible exact hold_n hb3 (hold_row hown1 hgrow2 (hv0 _ _ _) (.inr (by omega)))); have hXN := ge_w hX HU3 (by first | omega | exact le_of_w HU1 | exact le_of_w HU2 | exact le_of_w1 HU1)) | (have hX : HoldV u3 _ zR rtT8 := (by with_reducible exact hold_n hb3 (hold_row hown1 hgrow2 (hv1 _ _ _ _) (.inr (by omega)))); have hXN := ge_w hX HU3 (by first | omega | exact le_of_w HU1 | exact le_of_w HU2 | exact le_of_w1 HU1)) | (have hX : HoldV u3 _ zR rtT8 := (by with_reducible exact hold_n hb3 (hold_row hown1 hgrow2 (hold_under (hv0 _ _ _) _) (.inr (by omega)))); have hXN := ge_w hX HU3 (by first | omega | exact le_of_w HU1 | exact le_of_w HU2 | exact le_of_w1 HU1)) | skip); (first | (have x0 := hX.cell 0 (.int .i64 0) rfl; have x1 := hX.cell 1 (.int .i64 0) rfl; have x2 := hX.cell 2 (.int .i64 0) rfl; have x3 := hX.cell 3 (.int .i64 0) rfl; have x4 := hX.cell 4 (.int .i64 0) rfl; have xf := hX.frozen) | skip); clear hb3 harr5 hown2 hgrow2 hnil2 hg5 hg5l hc5 hown1 hgrow1 HU1 HU2 HN1 hS1 hSe) | (refine step_append_own rfl (.tmp 110) (.tmp 112) 30 rfl S1 rtT8 i _ 5 40 Try.underlying30 HI.out HZ0.out HZ1.out HZ2.out rfl (by decide) v1 q (ival ys) rfl (by first | exact hown1 | exact World.ownsRow.alloc hown1 _ | exact row_alloc2 hown1 _ _) _ 1 1 (ival [rA ys j, rB ys j, 167772177, rL ys j, rM ys j]) rfl rfl (five_of_hold (by with_reducible (first | exact hv0 _ _ _ | exact hv1 _ _ _ _ | exact hv2 _ _ _ _ _ | exact hold_under (hv0 _ _ _) _ | exact hold_under (hv1 _ _ _ _) _ | exact hold_g hgrow1 (hold_d (hv0 _ _ _)) | exact hold_g hgrow1 (hold_d (hv1 _ _ _ _)) | exact hold_g hgrow1 (hold_d (hv2 _ _ _ _ _)) | exact hold_g hgrow1 (hold_d (hold_under (hv0 _ _ _) _)) | exact hold_g hgrow1 (hold_d (hold_under (hv1 _ _ _ _) _)) | exact hold_g hgrow1 (hold_d (hold_under ((hold_under (hv0 _ _ _) _)) _)) | exact hold_under (hold_g hgrow1 (hold_d (hv0 _ _ _))) _ | exact hold_under (hold_g hgrow1 (hold_d (hv1 _ _ _ _))) _ | exact hold_under (hold_g hgrow1 (hold_d (hv2 _ _ _ _ _))) _ | exact hold_under (hold_g hgrow1 (hold_d (hold_under (hv0 _ _ _) _))) _ | exact hold_under (hold_g hgrow1 (hold_d (hold_under (hv1 _ _ _ _) _))) _ | exact hold_under (hold_g hgrow1 (hold_d (hold_under ((hold_under (hv0 _ _ _) _)) _))) _))) (ival_one _) (by unfold maxLen; omega) (by omega) (by first | exact hS1 | exact le_a1 hS1 _ | exact le_a2 hS1 _ _) ?_; intro v2 u2 hown2 hgrow2 hnil2; have HU2 : Below W.heap.size W u2 := below_then2 hgrow2 (by first | exact hown1 | exact World.ownsRow.alloc hown1 _ | exact row_alloc2 hown1 _ _) HN1 (by first | exact HU1 | exact below_a1 HU1 _ | exact below_a2 HU1 _ _); obtain ⟨g5, off5, c5, rfl, hg5, hg5l, hc5, harr5⟩ := OwnI.formA (OwnI.of_two hown2) (fun e => absurd (hnil2.1 e).2 (by decide))))
          all_goals (go_wp2_with fail)
          all_goals go_meet
          all_goals (first | exact ⟨_, rfl, rfl, hide ⟨below_s5 HU3 hXN _ _ _ _ _, hold_s5 hX _ _ _ _ _⟩⟩ | exact ⟨_, rfl, rfl, hide ⟨below_a1 HU3 _, heap_alloc_new _ _⟩⟩)
        case rest =>
          obtain ⟨C, rfl, rfl, HC⟩ := hcut
          have HRC := hide (HRM.out.next HC.out.1)
          have k0 := HC.out.2.cell 0 _ rfl
          have k1 := HC.out.2.cell 1 _ rfl
          have k2 := HC.out.2.cell 2 _ rfl
          have k3 := HC.out.2.cell 3 _ rfl
          have k4 := HC.out.2.cell 4 _ rfl
          have y0 := HRC.out.cell 0 (.int .i64 (rA ys j)) rfl
          have y1 := HRC.out.cell 1 (.int .i64 (rB ys j)) rfl
          have y2 := HRC.out.cell 2 (.int .i64 (rV ys j)) rfl
          have y3 := HRC.out.cell 3 (.int .i64 (rL ys j)) rfl
          have y4 := HRC.out.cell 4 (.int .i64 (rM ys j)) rfl
          have heq := eqRt (rA ys j) (rB ys j) (rV ys j) (rL ys j) (rM ys j) (rA ys j) (rB ys j) (rV ys j) (rL ys j) (rM ys j)
          simp only [beq_self_eq_true, Bool.and_true] at heq
          go_wp2_with fail
          go_ret
          exact ⟨rfl, HBW.out.trans (HC.out.1.mono HBW.out.size)⟩
theorem walkFnLongest (a0 : Option Addr) (len0 cap0 : Nat) (z0 : List Int) (w : World) (w0 : IsRow .u8 w a0 len0 cap0 z0) :
    Calls Try.prog 4 #[.slice a0 len0 cap0] w fun e w' => e = .returned (.bool true) ∧ Below w.heap.size w w' := by
  obtain ⟨ys, hn, ha⟩ := w0.arr
  by_cases h : len0 ≤ 1048576
  · exact walkLongest0 a0 len0 cap0 ys w hn ha h
  · have h2 : (1048576 : Int) < (len0 : Int) := by omega
    clear ha hn h w0
    go_enter Try.func4, Try.ntmps4
    go_wp2_with fail
    go_ret
    exact ⟨rfl, Below.refl _ _⟩

open Go.ChangeMaps (open_string shut_string)
theorem own : ownKnob Try.prog.godebug = none := by kernel_rfl
theorem laidOut : laidOutB Try.prog = true := by kernel_rfl

set_option maxRecDepth 100000 in
theorem fnLongest_lifted (os : Os) (started : os.Started) (H : Type) (enc : TypeId × Value → H) :
    ReturnsInHanded {} Try.checked os 4 .any (Rows.fnLongestSpec.pre6 enc Try.prog Try.f4 Rows.fnLongestRow.domain false) (Rows.fnLongestSpec.post enc Try.prog Try.f4 false true false false) := by
  refine returnsInHanded_of_change (C := Try.checked) own started (by kernel_rfl) Try.func4
    (ChangeSpec.witness6 (enc := enc) (C := Try.checked) false ⟨#[], #[.slice none 0 0], []⟩ 8 (by kernel_rfl) (by kernel_rfl) (by kernel_rfl) (by kernel_rfl)) ?_
  intro W base args ds gs before hval0 hW hcnd _
  have hval : ∀ (j : Nat) t v, Try.f4.params[j]? = some t → args[j]? = some v → Value.okWide Try.prog W .any base t v := hval0
  have hW' := hW
  obtain ⟨p, q, hA0, hV, rfl, hfz, hnd⟩ := hW
  have hA : DataW.TrodAll enc Try.prog W 0 (fun _ => true) true Try.f4.params.toList args.toList ds p := hA0
  rw [Try.params4] at hA hval
  obtain ⟨v0, vs0, d0, ds0, p0, q0, hargs, rfl, rfl, h0, r0⟩ := trodAll_cons hA
  obtain ⟨rfl, rfl, rfl⟩ := trodAll_nil r0
  obtain rfl : args = #[v0] := by cases args; simp_all
  obtain ⟨rfl, rfl⟩ := trodVars_none hV
  obtain ⟨a0, len0, cap0, rfl⟩ := okWide_slice Try.underlying35 (hval 0 35 v0 rfl rfl)
  have k0 := h0
  have lt0 : ∀ x ∈ p0, x.block < W.heap.size := by obtain ⟨m, hm⟩ := k0; exact DataW.trod_lt m _ _ _ hm
  obtain ⟨z0, w0⟩ : ∃ zs, IsRow .u8 W a0 len0 cap0 zs := by
    obtain ⟨fuel, hf⟩ := h0
    rcases open_ints Try.underlying35 Try.underlying5 (by kernel_rfl) hf with ⟨hcs, _⟩ | ⟨x, l, c, zs, hcs, _, hl, hm, hz, _, hcell, hwz⟩
    · simp [Value.cells] at hcs
      obtain ⟨rfl, rfl, rfl⟩ := hcs
      exact ⟨[], .inl ⟨rfl, rfl, rfl, rfl⟩⟩
    · simp [Value.cells] at hcs
      obtain ⟨rfl, rfl, rfl⟩ := hcs
      exact ⟨zs, .inr ⟨_, rfl, hl, hm, by simpa using hz, hcell, hwz⟩⟩
  clear hA0 hval0
  refine (walkFnLongest a0 len0 cap0 z0 W w0).mono fun e W' ⟨he, bel⟩ => ?_
  subst he
  exact ⟨_, rfl, _, _, _, [], _, [], hW', trodAll_mk1 (shut_bool Try.underlying4 _), (trodAll_cons_mk (Below.trod laidOut (by kernel_rfl) (of_decide_eq_true (by kernel_rfl)) k0 bel lt0) trodAll_mk0), rfl, bel.frame _, fun h => by cases h⟩

theorem fnLongest_over : Rows.fnLongestRow.holds Try.pinned (OpenSpec.ofChange Rows.fnLongestSpec) :=
  OpenClaim.holds_of_wide 4 Try.f4 rfl rfl rfl rfl rfl rfl rfl ⟨rfl, rfl, rfl, rfl, rfl⟩ rfl rfl rfl rfl rfl (by kernel_rfl) Try.func4 (by kernel_rfl)
    (of_decide_eq_true (by kernel_rfl)) (by unfold Func.isWrapper; first | (rw [if_pos (by decide +kernel)]; kernel_rfl) | (rw [if_neg (by decide +kernel)]; exact ⟨rfl, rfl⟩))
    (fun os started H enc _ => fnLongest_lifted os started H enc)

theorem fnLongest_holds : Rows.FnLongestSaid := fnLongest_over
end Go.Proofs.Ytmlpninkilcjaaa
