/-
Contracts of functions of this seat.
-/
import Derived.Test.YtmgjagajcmeikalDoorRows
import Derived.WalkKit
import Derived.ProofKit
import Derived.OpenShut
import Derived.Test.YtmgjagajcmeikalDoorNub
namespace Go.Proofs.YtmgjagajcmeikalDoor
open Go.ChangeShapes Go.WideShapes Go.ChangeAt Go.RowKit
set_option linter.unusedVariables false
def adFold (ps : List (List UInt8)) : Int := ps.foldl (fun a p => a * 256 + numV p) 0
def okP (p : List UInt8) : Bool := numOK p 255
def adOK (l : List UInt8) : Bool := decide ((splitL 46 l).length = 4) && (splitL 46 l).all okP
def adX (l : List UInt8) : Int := if adOK l then adFold (splitL 46 l) else 0
def adC (l : List UInt8) : Int := if adOK l then 0 else 6
theorem adX_no {l : List UInt8} (h : adOK l = false) : adX l = 0 := by unfold adX; rw [h]; rfl
theorem adC_no {l : List UInt8} (h : adOK l = false) : adC l = 6 := by unfold adC; rw [h]; rfl
theorem adX_yes {l : List UInt8} (h : adOK l = true) : adX l = adFold (splitL 46 l) := by unfold adX; rw [h]; rfl
theorem adC_yes {l : List UInt8} (h : adOK l = true) : adC l = 0 := by unfold adC; rw [h]; rfl
theorem split_ne (c : UInt8) (l : List UInt8) : splitL c l ≠ [] := by
  cases l with
  | nil => simp [splitL]
  | cons x xs => unfold splitL; split <;> simp
theorem split_len (c : UInt8) : ∀ l : List UInt8, (splitL c l).flatten.length + (splitL c l).length = l.length + 1
  | [] => rfl
  | x :: xs => by
    have ih := split_len c xs
    unfold splitL
    split
    · simp only [List.flatten_cons, List.nil_append, List.length_cons]; omega
    · match h : splitL c xs, split_ne c xs with
      | p :: ps, _ =>
        rw [h] at ih
        simp only [List.headD_cons, List.tail_cons, List.flatten_cons, List.length_append, List.length_cons] at *
        omega
theorem ad_short {l : List UInt8} (h : adOK l = true) : l.length ≤ 15 := by
  unfold adOK at h
  simp only [Bool.and_eq_true, decide_eq_true_eq, List.all_eq_true] at h
  obtain ⟨h4, ha⟩ := h
  have hs := split_len 46 l
  match hp : splitL 46 l, h4, ha, hs with
  | [a, b, c, d], _, ha, hs =>
    have h1 := (numOK_len (ha a (by simp))).2.1
    have h2 := (numOK_len (ha b (by simp))).2.1
    have h3 := (numOK_len (ha c (by simp))).2.1
    have h4 := (numOK_len (ha d (by simp))).2.1
    simp only [List.flatten_cons, List.flatten_nil, List.append_nil, List.length_append, List.length_cons, List.length_nil] at hs
    omega
theorem adFold_take (ps : List (List UInt8)) (k : Nat) (h : k < ps.length) : adFold (ps.take (k + 1)) = adFold (ps.take k) * 256 + numV ps[k] := by
  unfold adFold; rw [List.take_succ_eq_append_getElem h, List.foldl_append]; rfl
theorem adFold_bd (ps : List (List UInt8)) : ∀ k, k ≤ ps.length → (ps.take k).all okP = true → 0 ≤ adFold (ps.take k) ∧ adFold (ps.take k) < 256 ^ k
  | 0, _, _ => by simp [adFold]
  | k + 1, hk, h => by
    rw [List.take_succ_eq_append_getElem (by omega), List.all_append, Bool.and_eq_true] at h
    have ih := adFold_bd ps k (by omega) h.1
    have := numOK_len (l := ps[k]) (by simpa [okP] using h.2)
    rw [adFold_take ps k (by omega), Int.pow_succ]
    omega
theorem allP_succ {ps : List (List UInt8)} {k : Nat} (h : k < ps.length) (h0 : (ps.take k).all okP = true) (h1 : okP ps[k] = true) : (ps.take (k + 1)).all okP = true := by
  rw [List.take_succ_eq_append_getElem h, List.all_append, h0]; simp [h1]
theorem ad_bad {l : List UInt8} {k : Nat} (h : k < (splitL 46 l).length) (h1 : okP (splitL 46 l)[k] = false) : adOK l = false := by
  unfold adOK
  cases e : (splitL 46 l).all okP with
  | false => simp
  | true =>
    rw [List.all_eq_true] at e
    have := e _ (List.getElem_mem h)
    rw [h1] at this; cases this
theorem pow256 {k : Nat} (h : k ≤ 4) : ((256 : Int) ^ k) ≤ 4294967296 := by
  match k, h with
  | 0, _ => decide
  | 1, _ => decide
  | 2, _ => decide
  | 3, _ => decide
  | 4, _ => decide

theorem OwnS.at {w : World} {B : Nat} {v : Value} {ps : List (List UInt8)} (h : OwnS w B v ps) (h0 : ps ≠ []) : ∃ g cap, v = .slice (some ⟨g, 0, none⟩) ps.length cap ∧ g < w.heap.size ∧ ∀ j (hj : j < ps.length), w.cell? ⟨g, j, none⟩ = some (.string (bs ps[j])) := by
  rcases h.2 with ⟨hv, hn⟩ | ⟨g, cap, cur, hv, hB, hg, hnc, hcm, hcs, htake⟩
  · exact absurd (List.length_eq_zero_iff.1 hn) h0
  · refine ⟨g, cap, hv, ?_, fun j hj => ?_⟩
    · by_cases hlt : g < w.heap.size
      · exact hlt
      · rw [Array.getElem?_eq_none (by omega)] at hg; cases hg
    · have hc := (hv ▸ h : w.ownsRow B 9 1 (.slice (some ⟨g, 0, none⟩) ps.length cap) ps.length (sval ps)).cellAt j (by omega)
      rw [hc]; unfold sval; rw [List.getElem?_map, List.getElem?_eq_getElem hj]; rfl
def AllP (ps : List (List UInt8)) : Prop := ps.all okP = true
theorem ret_pair {k l : IntKind} {a b c d : Int} (h : a = b) (h2 : c = d) : Ending.returned (.tuple #[.int k a, .int l c]) = .returned (.tuple #[.int k b, .int l d]) := by rw [h, h2]
set_option maxHeartbeats 1000000 in
theorem specAddr_walk (l : List UInt8) (w : World) (hl : l.length ≤ 1048576) :
    Calls Tryd.prog 28 #[.string (bs l)] w fun e w' => e = .returned (.tuple #[.int .i64 (adX l), .int .i64 (adC l)]) ∧ Below w.heap.size w w' := by
  have hsz := bs_size l
  by_cases hbig : 15 < l.length
  · have HN : Hid (adOK l = false) := hide (by
      cases e : adOK l with
      | false => rfl
      | true => exact absurd (ad_short e) (by omega))
    generalize bs l = s at *
    go_enter Tryd.func28, Tryd.ntmps28
    go_wp2_with fail
    go_ret2
    exact ⟨ret_pair (adX_no HN.out).symm (adC_no HN.out).symm, Below.refl _ _⟩
  · have hl15 : l.length ≤ 15 := by omega
    clear hbig hl
    have HC := hide (l02Cut_walk l 46 w (by omega))
    by_cases h4 : (splitL 46 l).length = 4
    · have H4 := hide h4
      have HBAD : Hid (∀ k (h : k < (splitL 46 l).length), okP (splitL 46 l)[k] = false → adOK l = false) := hide (fun k h => ad_bad h)
      have HOK : Hid ((splitL 46 l).all okP = true → adOK l = true) := hide (fun h => by unfold adOK; rw [h, decide_eq_true h4]; rfl)
      have HX : Hid (adOK l = true → adX l = adFold (splitL 46 l)) := hide adX_yes
      have HLN : Hid (∀ p ∈ splitL 46 l, p.length ≤ 1048576) := hide (fun p hp => by
        have h1 := split_len 46 l
        have h2 := List.Sublist.length_le (List.sublist_flatten_of_mem hp)
        omega)
      have HNE := hide (split_ne 46 l)
      clear h4
      generalize bs l = s at *
      generalize splitL 46 l = ps at *
      go_enter Tryd.func28, Tryd.ntmps28
      go_wp2_with (go_at_call 27; refine HC.out.mono ?_; rintro e w1 ⟨v, rfl, hown, hb1⟩; obtain ⟨g, cap, rfl, hg, hcell⟩ := hown.at HNE.out; have HCL := hide hcell; clear hcell hown; rw [H4.out])
      go_loopw [5, 6] (fun a t w2 => ∃ i : Nat, i ≤ 4 ∧ t = .int .i64 i ∧ a = .int .i64 (adFold (ps.take i)) ∧ Hid (AllP (ps.take i)) ∧ 0 ≤ adFold (ps.take i) ∧ adFold (ps.take i) < 4294967296 ∧ Below w1.heap.size w1 w2) (fun _ t _ => 4 - (intOf t).toNat)
      case atStart => exact ⟨0, by omega, rfl, rfl, hide rfl, by simp [adFold], by simp [adFold], Below.refl _ _⟩
      case round =>
        obtain ⟨i, hi, rfl, rfl, HD, hn0, hn1, hb2⟩ := hrel
        by_cases hlt : i < 4
        · have hi4 : i < ps.length := by rw [H4.out]; exact hlt
          have hcc : wr.cell? ⟨g, i, none⟩ = some (.string (bs ps[i])) := by rw [hb2.cell (p := ⟨g, i, none⟩) hg]; exact HCL.out i hi4
          have HNW := hide (number_walk ps[i] 3 wr (HLN.out _ (List.getElem_mem hi4)) (by omega))
          have HFT := hide (adFold_take ps i hi4)
          have HO3 := hide (numOK_F3 ps[i])
          have HBK := hide (HBAD.out i hi4)
          by_cases hf : numF ps[i] 3 = true
          · by_cases h255 : numV ps[i] ≤ 255
            · have HP : Hid (okP ps[i] = true) := hide (by unfold okP; rw [← HO3.out, hf, decide_eq_true h255]; rfl)
              have HD2 : Hid (AllP (ps.take (i + 1))) := hide (allP_succ hi4 HD.out HP.out)
              have hbd := adFold_bd ps (i + 1) (by omega) HD2.out
              have hp := pow256 (k := i + 1) (by omega)
              have hv0 := (numOK_len HP.out).2.2.1
              have HB0 : Hid (0 ≤ adFold (ps.take (i + 1)) ∧ adFold (ps.take (i + 1)) < 4294967296) := hide ⟨hbd.1, by omega⟩
              have HF := hide hf
              clear hbd hp hf
              generalize adFold (ps.take i) = x at *
              generalize numV ps[i] = y at *
              generalize bs ps[i] = sp at *
              go_wp2_with (go_at_call 29; refine HNW.out.mono ?_; rintro e w3 ⟨n, rfl, hn, hb3⟩; rw [HF.out] at *; have hn2 := hn rfl; subst hn2; clear hn)
              exact ⟨⟨i + 1, by omega, by go_num, by rw [HFT.out], HD2, HB0.out.1, HB0.out.2, hb2.trans (hb3.mono hb2.size)⟩, by simp [intOf]; omega⟩
            · have HN : Hid (adOK l = false) := hide (HBK.out (by unfold okP; rw [← HO3.out, decide_eq_false h255]; simp))
              have h256 : 255 < numV ps[i] := by omega
              have HF := hide hf
              clear hf h255
              generalize adFold (ps.take i) = x at *
              generalize numV ps[i] = y at *
              generalize bs ps[i] = sp at *
              go_wp2_with (go_at_call 29; refine HNW.out.mono ?_; rintro e w3 ⟨n, rfl, hn, hb3⟩; rw [HF.out] at *; have hn2 := hn rfl; subst hn2; clear hn)
              go_ret2
              exact ⟨ret_pair (adX_no HN.out).symm (adC_no HN.out).symm, (hb1.trans (hb2.mono hb1.size)).trans (hb3.mono (Nat.le_trans hb1.size hb2.size))⟩
          · have HF : Hid (numF ps[i] 3 = false) := hide (by simpa using hf)
            have HN : Hid (adOK l = false) := hide (HBK.out (by unfold okP; rw [← HO3.out, HF.out]; rfl))
            clear hf
            generalize adFold (ps.take i) = x at *
            generalize bs ps[i] = sp at *
            go_wp2_with (go_at_call 29; refine HNW.out.mono ?_; rintro e w3 ⟨n, rfl, hn, hb3⟩; rw [HF.out] at *; clear hn)
            go_ret2
            exact ⟨ret_pair (adX_no HN.out).symm (adC_no HN.out).symm, (hb1.trans (hb2.mono hb1.size)).trans (hb3.mono (Nat.le_trans hb1.size hb2.size))⟩
        · have hi' : i = 4 := by omega
          subst hi'
          have HT : Hid (ps.take 4 = ps) := hide (List.take_of_length_le (by rw [H4.out]; omega))
          rw [HT.out] at hn0 hn1 HD ⊢
          have HY := hide (HOK.out HD.out)
          have HXX := hide (HX.out HY.out)
          generalize adFold ps = x at *
          go_wp2_with fail
          go_ret2
          exact ⟨ret_pair HXX.out.symm (adC_yes HY.out).symm, hb1.trans (hb2.mono hb1.size)⟩
    · have HN : Hid (adOK l = false) := hide (by unfold adOK; rw [decide_eq_false h4]; rfl)
      have hne : (((splitL 46 l).length : Int) != 4) = true := by rw [bne_iff_ne]; omega
      have HNE := hide (split_ne 46 l)
      clear h4
      generalize bs l = s at *
      generalize splitL 46 l = ps at *
      go_enter Tryd.func28, Tryd.ntmps28
      go_wp2_with (go_at_call 27; refine HC.out.mono ?_; rintro e w1 ⟨v, rfl, hown, hb1⟩; obtain ⟨g, cap, rfl, hg, hcell⟩ := hown.at HNE.out; have HCL := hide hcell; clear hcell hown)
      go_ret2
      exact ⟨ret_pair (adX_no HN.out).symm (adC_no HN.out).symm, hb1⟩

theorem own_bel {w w' : World} {B e size n : Nat} {v : Value} {xs : List Value} (h : w.ownsRow B e size v n xs) (hb : Below w.heap.size w w') : w'.ownsRow B e size v n xs := by
  refine ⟨h.1, ?_⟩
  rcases h.2 with h0 | ⟨g, cap, cur, hv, hB, hg, hrest⟩
  · exact .inl h0
  · have hlt : g < w.heap.size := by
      by_cases hlt : g < w.heap.size
      · exact hlt
      · rw [Array.getElem?_eq_none (by omega)] at hg; cases hg
    exact .inr ⟨g, cap, cur, hv, hB, by rw [hb.block g hlt]; exact hg, hrest⟩
/-- The four parts lie in block B; their bytes are zs. -/
def Part4 (w0 w : World) (t : Nat) (zs : List Int) : Prop :=
  Below w0.heap.size w0 w ∧ w0.heap.size < w.heap.size ∧ zs.length = 4 ∧ w.ownsRow w0.heap.size t 1 (.slice (some ⟨w0.heap.size, 0, none⟩) 4 4) 4 (zs.map (Value.int .u8))
theorem Part4.start (w0 : World) (t : Nat) : Part4 w0 (w0.alloc (.cells #[.int .u8 0, .int .u8 0, .int .u8 0, .int .u8 0] t)) t [0, 0, 0, 0] :=
  ⟨(Below.refl _ _).alloc (Nat.le_refl _) _, by rw [World.size_alloc]; omega, rfl, World.ownsRow_lit (base := w0.heap.size) (e := t) (size := 1) w0 #[.int .u8 0, .int .u8 0, .int .u8 0, .int .u8 0] 4 (Nat.le_refl _) (by decide) rfl⟩
theorem Part4.cell {w0 w : World} {t : Nat} {zs : List Int} (h : Part4 w0 w t zs) {i : Nat} {z : Int} (hz : zs[i]? = some z) : w.cell? ⟨w0.heap.size, i, none⟩ = some (.int .u8 z) ∧ w.frozen? ⟨w0.heap.size, i, none⟩ = false := by
  have hi : i < 4 := by have := (List.getElem?_eq_some_iff.1 hz).1; rw [h.2.2.1] at this; exact this
  refine ⟨?_, h.2.2.2.frozenAt i⟩
  rw [h.2.2.2.cellAt i (by omega), List.getElem?_map, hz]; rfl
theorem Part4.store {w0 w : World} {t : Nat} {zs : List Int} (h : Part4 w0 w t zs) (i : Nat) (z : Int) : Part4 w0 (w.setCell ⟨w0.heap.size, i, none⟩ (.int .u8 z)) t (zs.set i z) := by
  refine ⟨h.1.setCell (p := ⟨w0.heap.size, i, none⟩) (Nat.le_refl _) _, by simpa using h.2.1, by rw [List.length_set]; exact h.2.2.1, ?_⟩
  have := (h.2.2.2.stored i (.int .u8 z)).1
  rw [List.map_set]; exact this
theorem Part4.below {w0 w w' : World} {t : Nat} {zs : List Int} (h : Part4 w0 w t zs) (hb : Below w.heap.size w w') : Part4 w0 w' t zs :=
  ⟨h.1.trans (hb.mono h.1.size), by have := hb.size; have := h.2.1; omega, h.2.2.1, own_bel h.2.2.2 hb⟩
theorem Part4.arr {w0 w : World} {t : Nat} {zs : List Int} (h : Part4 w0 w t zs) (hz : ∀ z ∈ zs, 0 ≤ z ∧ z ≤ 255) : Arr w (some ⟨w0.heap.size, 0, none⟩) zs := by
  refine ⟨hz, fun j hj => ⟨_, 0, rfl, h.2.1, ?_⟩⟩
  have h1 : zs[j]? = some (zs.getD j 0) := by rw [List.getD_eq_getElem?_getD, List.getElem?_eq_getElem hj]; rfl
  rw [Nat.zero_add]; exact (h.cell h1).1
def p4 (ds : List (List UInt8)) : List Int := ds.map numV ++ List.replicate (4 - ds.length) 0
theorem p4_get {ds : List (List UInt8)} {i : Nat} (h : ds.length = i) (hi : i < 4) : (p4 ds)[i]? = some 0 := by
  unfold p4
  rw [List.getElem?_append_right (by rw [List.length_map, h]; exact Nat.le_refl _), List.length_map, h, List.getElem?_replicate, if_pos (by omega)]
theorem p4_set {ds : List (List UInt8)} {i : Nat} (a : List UInt8) (h : ds.length = i) (hi : i < 4) : (p4 ds).set i (numV a) = p4 (ds ++ [a]) := by
  unfold p4
  rw [List.set_append_right _ _ (by rw [List.length_map, h]; exact Nat.le_refl _), List.length_map, h, Nat.sub_self, List.length_append, List.map_append, List.append_assoc]
  congr 1
  rw [show 4 - i = (4 - (i + 1)) + 1 by omega, List.replicate_succ, List.set_cons_zero, h]
  rfl
theorem p4_end {ds : List (List UInt8)} (h : ds.length = 4) : p4 ds = ds.map numV := by unfold p4; rw [h]; simp
theorem tnum_fold (ds : List (List UInt8)) : tnum (ds.map numV) = adFold ds := by unfold tnum adFold; rw [List.foldl_map]
theorem ad_len {l : List UInt8} (h : ¬ (splitL 46 l).length = 4) : adOK l = false := by unfold adOK; rw [decide_eq_false h]; rfl
theorem ad_part {l : List UInt8} {ds qs : List (List UInt8)} {a : List UInt8} (h : splitL 46 l = ds ++ a :: qs) (h1 : okP a = false) : adOK l = false := by
  unfold adOK; rw [h, List.all_append, List.all_cons, h1]; simp
/-- What is left behind i parts. -/
def Left (l : List UInt8) (ds : List (List UInt8)) (r : List UInt8) (i : Nat) : Prop :=
  AllP ds ∧ (i < 4 → splitL 46 l = ds ++ splitL 46 r) ∧ (i = 4 → splitL 46 l = ds)
theorem Left.len {l : List UInt8} {ds : List (List UInt8)} {r : List UInt8} {i : Nat} (h : Left l ds r i) (hi : i < 4) (hd : ds.length = i) (hq : ¬ i + (splitL 46 r).length = 4) : adOK l = false :=
  ad_len (by rw [h.2.1 hi, List.length_append, hd]; exact hq)
theorem AllP.snoc {ds : List (List UInt8)} {a : List UInt8} (h : AllP ds) (h1 : okP a = true) : AllP (ds ++ [a]) := by
  unfold AllP at *; rw [List.all_append, h]; simp [h1]
theorem decimal_yes (l : List UInt8) (most : Int) (w : World) (hl : l.length ≤ 1048576) (hm : 0 ≤ most ∧ most ≤ 1000000) (h : numOK l most = true) :
    Calls Tryd.prog 18 #[.string (bs l), .int .i64 most] w fun e w' => e = .returned (.tuple #[.int .i64 (numV l), .bool true]) ∧ w' = w := by
  have h2 := decimal_walk l most w hl hm
  rw [numX_yes h, h] at h2; exact h2
theorem decimal_no (l : List UInt8) (most : Int) (w : World) (hl : l.length ≤ 1048576) (hm : 0 ≤ most ∧ most ≤ 1000000) (h : numOK l most = false) :
    Calls Tryd.prog 18 #[.string (bs l), .int .i64 most] w fun e w' => e = .returned (.tuple #[.int .i64 0, .bool false]) ∧ w' = w := by
  have h2 := decimal_walk l most w hl hm
  rw [numX_no h, h] at h2; exact h2
theorem bs46 : (⟨#[46]⟩ : ByteArray) = bs [46] := rfl
set_option maxHeartbeats 4000000 in
theorem addr_walk (l : List UInt8) (w : World) (hl : l.length ≤ 1048576) :
    Calls Tryd.prog 7 #[.string (bs l)] w fun e w' => e = .returned (.tuple #[.int .i64 (adX l), .int .i64 (adC l)]) ∧ Below w.heap.size w w' := by
  go_enter Tryd.func7, Tryd.ntmps7
  go_wp2_with fail
  have HP0 : Hid (Part4 w (w.alloc (.cells #[.int .u8 0, .int .u8 0, .int .u8 0, .int .u8 0] 43)) 43 (p4 [])) := hide (Part4.start w _)
  have HL0 : Hid (Left l [] l 0) := hide ⟨rfl, fun _ => rfl, fun h => by cases h⟩
  generalize w.alloc (.cells #[.int .u8 0, .int .u8 0, .int .u8 0, .int .u8 0] 43) = W at *
  go_loopw [5, 13] (fun g t w2 => ∃ (i : Nat) (ds : List (List UInt8)) (r : List UInt8), i ≤ 4 ∧ t = .int .i64 i ∧ g = .string (bs r) ∧ r.length ≤ 1048576 ∧ Hid (ds.length = i) ∧ Hid (Part4 w w2 43 (p4 ds)) ∧ Hid (Left l ds r i)) (fun _ t _ => 4 - (intOf t).toNat)
  case atStart => exact ⟨0, [], l, by omega, rfl, rfl, hl, hide rfl, HP0, HL0⟩
  case round =>
    obtain ⟨i, ds, r, hi, rfl, rfl, hr, HD, HP, HL⟩ := hrel
    clear HP0 HL0
    by_cases hlt : i < 4
    · by_cases hdot : (46 : UInt8) ∈ r
      · obtain ⟨a, b, rfl, hna⟩ := List.eq_append_cons_of_mem hdot
        have HSP := hide (split_yes 46 b a hna)
        have HCW := hide (cut_yes a b 46 wr hr hna)
        have hla : a.length ≤ 1048576 ∧ b.length ≤ 1048576 := by rw [List.length_append, List.length_cons] at hr; omega
        clear hdot hna hr
        generalize a ++ 46 :: b = r at *
        by_cases h3 : i = 3
        · have HN : Hid (adOK l = false) := hide (HL.out.len hlt HD.out (by rw [HSP.out, List.length_cons]; have := List.length_pos_iff.2 (split_ne 46 b); omega))
          subst h3
          go_wp2_with (go_at_call 17; refine HCW.out.mono ?_; rintro e w3 ⟨rfl, hb3⟩)
          go_ret2
          exact ⟨ret_pair (adX_no HN.out).symm (adC_no HN.out).symm, (HP.out.below hb3).1⟩
        · have hi3 : i < 3 := by omega
          have hq : (!decide ((i : Int) < 3)) = false := by simp; omega
          clear h3
          by_cases hok : numOK a 255 = true
          · have hv := numOK_len hok
            have HPA : Hid (okP a = true) := hide hok
            have HOK := hide hok
            have HL2 : Hid (Left l (ds ++ [a]) b (i + 1)) := hide ⟨HL.out.1.snoc hok, fun _ => by rw [HL.out.2.1 hlt, HSP.out, List.append_assoc]; rfl, fun h => absurd h (by omega)⟩
            have HSET := hide (p4_set a HD.out hlt)
            have HGET := hide (p4_get HD.out hlt)
            have hv0 := hv.2.2.1
            have hv1 := hv.2.2.2
            clear hok hv
            go_wp2_with (first | (go_at_call 17; refine HCW.out.mono ?_; rintro e w3 ⟨rfl, hb3⟩; have HP3 := hide (HP.out.below hb3); obtain ⟨hk1, hk2⟩ := HP3.out.cell HGET.out) | (go_at_call 18; refine (decimal_yes a 255 _ hla.1 (by omega) HOK.out).mono ?_; rintro e w4 ⟨rfl, rfl⟩))
            exact ⟨⟨i + 1, ds ++ [a], b, by omega, by go_num, rfl, hla.2, hide (by rw [List.length_append, HD.out]; rfl), hide (by rw [← HSET.out]; exact HP3.out.store i _), HL2⟩, by simp [intOf]; omega⟩
          · have HF : Hid (numOK a 255 = false) := hide (by simpa using hok)
            have HN : Hid (adOK l = false) := hide (ad_part (ds := ds) (a := a) (qs := splitL 46 b) (by rw [HL.out.2.1 hlt, HSP.out]) HF.out)
            clear hok
            go_wp2_with (first | (go_at_call 17; refine HCW.out.mono ?_; rintro e w3 ⟨rfl, hb3⟩) | (go_at_call 18; refine (decimal_no a 255 _ hla.1 (by omega) HF.out).mono ?_; rintro e w4 ⟨rfl, rfl⟩))
            go_ret2
            exact ⟨ret_pair (adX_no HN.out).symm (adC_no HN.out).symm, (HP.out.below hb3).1⟩
      · have HSP := hide (split_no 46 r hdot)
        have HCW := hide (cut_no r 46 wr hdot)
        clear hdot
        by_cases h3 : i = 3
        · subst h3
          by_cases hok : numOK r 255 = true
          · have hv := numOK_len hok
            have HOK := hide hok
            have HL2 : Hid (Left l (ds ++ [r]) [] 4) := hide ⟨HL.out.1.snoc hok, fun h => absurd h (by omega), fun _ => by rw [HL.out.2.1 (by omega), HSP.out]⟩
            have HSET := hide (p4_set r HD.out hlt)
            have HGET := hide (p4_get HD.out hlt)
            have hv0 := hv.2.2.1
            have hv1 := hv.2.2.2
            clear hok hv
            go_wp2_with (first | (go_at_call 17; refine HCW.out.mono ?_; rintro e w3 ⟨rfl, hb3⟩; have HP3 := hide (HP.out.below hb3); obtain ⟨hk1, hk2⟩ := HP3.out.cell HGET.out) | (go_at_call 18; refine (decimal_yes r 255 _ hr (by omega) HOK.out).mono ?_; rintro e w4 ⟨rfl, rfl⟩))
            exact ⟨⟨4, ds ++ [r], [], by omega, rfl, rfl, by simp, hide (by rw [List.length_append, HD.out]; rfl), hide (by rw [← HSET.out]; exact HP3.out.store 3 _), HL2⟩, by simp [intOf]⟩
          · have HF : Hid (numOK r 255 = false) := hide (by simpa using hok)
            have HN : Hid (adOK l = false) := hide (ad_part (ds := ds) (a := r) (qs := []) (by rw [HL.out.2.1 hlt, HSP.out]) HF.out)
            clear hok
            go_wp2_with (first | (go_at_call 17; refine HCW.out.mono ?_; rintro e w3 ⟨rfl, hb3⟩) | (go_at_call 18; refine (decimal_no r 255 _ hr (by omega) HF.out).mono ?_; rintro e w4 ⟨rfl, rfl⟩))
            go_ret2
            exact ⟨ret_pair (adX_no HN.out).symm (adC_no HN.out).symm, (HP.out.below hb3).1⟩
        · have hi3 : i < 3 := by omega
          have HN : Hid (adOK l = false) := hide (HL.out.len hlt HD.out (by rw [HSP.out]; show ¬ i + 1 = 4; omega))
          clear h3
          go_wp2_with (go_at_call 17; refine HCW.out.mono ?_; rintro e w3 ⟨rfl, hb3⟩)
          go_ret2
          exact ⟨ret_pair (adX_no HN.out).symm (adC_no HN.out).symm, (HP.out.below hb3).1⟩
    · have hi' : i = 4 := by omega
      subst hi'
      have HSP := hide (HL.out.2.2 rfl)
      have HY : Hid (adOK l = true) := hide (by
        have h1 := HD.out
        have h2 : ds.all okP = true := HL.out.1
        unfold adOK; rw [HSP.out, h1, h2]; rfl)
      have HV : Hid (adX l = tnum (p4 ds)) := hide (by rw [adX_yes HY.out, HSP.out, p4_end HD.out, tnum_fold])
      have hzs : ∀ z ∈ p4 ds, 0 ≤ z ∧ z ≤ 255 := by
        rw [p4_end HD.out]
        intro z hz
        obtain ⟨p, hp, rfl⟩ := List.mem_map.1 hz
        exact (numOK_len (List.all_eq_true.1 HL.out.1 p hp)).2.2
      have HR := hide (HP.out.arr hzs)
      have HLN := hide HP.out.2.2.1
      clear hzs
      go_wp2_with (go_at_call 19; refine (takeNumber_walk _ 4 _ (p4 ds) _ HLN.out HR.out (by omega)).mono ?_; rintro e w2 ⟨rfl, rfl⟩)
      go_ret2
      exact ⟨ret_pair HV.out.symm (adC_yes HY.out).symm, HP.out.1⟩
end Go.Proofs.YtmgjagajcmeikalDoor
