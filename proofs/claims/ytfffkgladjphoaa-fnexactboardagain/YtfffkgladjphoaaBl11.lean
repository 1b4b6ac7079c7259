/-
Contracts of functions of this seat.
-/
import Derived.Test.YtfffkgladjphoaaRows
import Derived.WalkKit
import Derived.ProofKit
import Derived.OpenShut
import Derived.Test.YtfffkgladjphoaaBl10
namespace Go.Proofs.Ytfffkgladjphoaa
open Go.ChangeShapes Go.WideShapes Go.ChangeAt Go.RowKit
set_option linter.unusedVariables false
set_option maxRecDepth 100000
theorem take_snoc {os : List PieceM} {i : Nat} (h : i < os.length) : os.take (i + 1) = os.take i ++ [os[i]] := (List.take_append_getElem h).symm
theorem ownP_nil (w : World) (B : Nat) : OwnP w B (.slice none 0 0) [] := ⟨by simp, .inl ⟨rfl, rfl⟩⟩
theorem ownP_gr {W W' : World} {B g : Nat} {v : Value} {os : List PieceM} (h : OwnP W B v os) (hg : W.grownBy W' (some g)) (hgB : g < B) : OwnP W' B v os :=
  ownsAt.frame h (fun b hb => hg.block b (ownsAt.lt h b hb).2 (fun e => by cases e; have := (ownsAt.lt h _ hb).1; omega))
theorem ownP_mono {W : World} {B C : Nat} {v : Value} {os : List PieceM} (h : OwnP W B v os) (hC : C ≤ B) : OwnP W C v os := ownsAt.mono h hC
theorem row_own {W : World} {BB n : Nat} {v : Value} {os : List PieceM} (h : RowP W BB v n os) (hn : os.length = n) : OwnP W BB v os := by
  have := ownsAt.of_row h
  rw [← hn] at this
  exact this
theorem row_gr {W W' : World} {BB n g : Nat} {v : Value} {os : List PieceM} (h : RowP W BB v n os) (hg : W.grownBy W' (some g)) (hgB : g < BB) : RowP W' BB v n os := by
  refine ⟨h.1, ?_⟩
  rcases h.2 with h0 | ⟨r, cap, cur, hv, hB, hr, hrest⟩
  · exact .inl h0
  · exact .inr ⟨r, cap, cur, hv, hB, (hg.block r (Array.getElem?_eq_some_iff.1 hr).1 (fun e => by cases e; omega)).trans hr, hrest⟩
theorem flat_set {α : Type} (val : α → List Value) (K : Nat) (hv : ∀ a, (val a).length = K) : ∀ (os : List α) (i j : Nat) (u : Value) (o' : α) (hi : i < os.length), j < K → val o' = (val os[i]).set j u → (os.flatMap val).set (i * K + j) u = (os.set i o').flatMap val
  | [], i, j, u, o', hi, _, _ => by simp at hi
  | o :: os, 0, j, u, o', hi, hj, he => by
    rw [List.flatMap_cons, Nat.zero_mul, Nat.zero_add, List.set_append_left _ _ (by rw [hv]; exact hj)]
    rw [show (o :: os).set 0 o' = o' :: os from rfl, List.flatMap_cons, he]
    rfl
  | o :: os, i + 1, j, u, o', hi, hj, he => by
    have hi' : i < os.length := by simpa using hi
    have ih := flat_set val K hv os i j u o' hi' hj (by simpa using he)
    rw [List.flatMap_cons, List.set_append_right _ _ (by rw [hv, Nat.succ_mul]; omega), hv, show (i + 1) * K + j - K = i * K + j by rw [Nat.succ_mul]; omega, ih]
    rw [show (o :: os).set (i + 1) o' = o :: os.set i o' from rfl, List.flatMap_cons]
/-- A field of one piece of an own row is put anew. -/
theorem RowP.put {W : World} {BB g n cap : Nat} {os : List PieceM} (h : RowP W BB (.slice (some ⟨g, 0, none⟩) n cap) n os) {i j : Nat} (hi : i < os.length) (hj : j < 6) (u : Value) (o' : PieceM) (he : valPiece o' = (valPiece os[i]).set j u) : RowP (W.setCell ⟨g, i * 6 + j, none⟩ u) BB (.slice (some ⟨g, 0, none⟩) n cap) n (os.set i o') := by
  have hs := (World.ownsRow.stored h (i * 6 + j) u).1
  rw [flat_set valPiece 6 valPiece_len os i j u o' hi hj he] at hs
  exact hs
theorem RowP.at {W : World} {BB g n cap : Nat} {os : List PieceM} (h : RowP W BB (.slice (some ⟨g, 0, none⟩) n cap) n os) (hn : os.length = n) {i j : Nat} (hi : i < os.length) (hj : j < 6) : W.cell? ⟨g, i * 6 + j, none⟩ = (valPiece os[i])[j]? := by
  rw [World.ownsRow.cellAt h (i * 6 + j) (by omega)]
  exact vat valPiece 6 valPiece_len os i j hi hj
theorem RowP.some {W : World} {BB n : Nat} {v : Value} {os : List PieceM} (h : RowP W BB v n os) (hn : 0 < n) : ∃ g cap, v = .slice (some ⟨g, 0, none⟩) n cap ∧ BB ≤ g ∧ g < W.heap.size := by
  rcases h.2 with ⟨_, h1⟩ | ⟨g, cap, cur, hv, hB, hg, _⟩
  · omega
  · exact ⟨g, cap, hv, hB, (Array.getElem?_eq_some_iff.1 hg).1⟩
theorem row_frozen {W : World} {BB g n cap : Nat} {os : List PieceM} (h : RowP W BB (.slice (some ⟨g, 0, none⟩) n cap) n os) (j : Nat) : W.frozen? ⟨g, j, none⟩ = false := World.ownsRow.frozenAt h j
/-- A piece that is lost. -/
def lostP (o : PieceM) : PieceM := ⟨o.f0, o.f1, o.f2, o.f3, false, true⟩
/-- The first i pieces are changed. -/
def chgL (f : PieceM → PieceM) (os : List PieceM) (i : Nat) : List PieceM := (os.take i).map f ++ os.drop i
theorem chgL_len (f : PieceM → PieceM) (os : List PieceM) (i : Nat) (h : i ≤ os.length) : (chgL f os i).length = os.length := by unfold chgL; simp; omega
theorem chgL_zero (f : PieceM → PieceM) (os : List PieceM) : chgL f os 0 = os := by unfold chgL; simp
theorem chgL_all (f : PieceM → PieceM) (os : List PieceM) (i : Nat) (h : os.length ≤ i) : chgL f os i = os.map f := by unfold chgL; rw [List.take_of_length_le h, List.drop_eq_nil_of_le h]; simp
theorem chgL_get (f : PieceM → PieceM) (os : List PieceM) (i : Nat) (h : i < os.length) (h2 : i < (chgL f os i).length) : (chgL f os i)[i] = os[i] := by
  have e : (chgL f os i)[i]? = os[i]? := by
    unfold chgL
    have hl : ((os.take i).map f).length = i := by simp; omega
    rw [List.getElem?_append_right (by rw [hl]; exact Nat.le_refl _), hl, Nat.sub_self, List.getElem?_drop]
    rfl
  rw [List.getElem?_eq_getElem h2, List.getElem?_eq_getElem h] at e
  exact Option.some.inj e
theorem chgL_set (f : PieceM → PieceM) (os : List PieceM) (i : Nat) (h : i < os.length) : (chgL f os i).set i (f os[i]) = chgL f os (i + 1) := by
  unfold chgL
  have hl : ((os.take i).map f).length = i := by simp; omega
  rw [List.set_append_right _ _ (by rw [hl]; exact Nat.le_refl _), hl, Nat.sub_self, take_snoc h, List.map_append]
  simp
  rw [List.drop_eq_getElem_cons h]
  rfl
set_option maxHeartbeats 4000000 in
theorem markLost_walk (c : Nat) (q : PieceM) (pv nx : Option Nat) (w : World) (h : HoldV w c (lpV q pv nx) lpT) (h0 : 0 ≤ q.f0) (h1 : q.f0 < q.f1) (h2 : q.f1 ≤ 1099511627776) :
    Calls Try.prog 34 #[.pointer (some ⟨c, 0, none⟩)] w fun e w' => e = .returned (.int .i64 (q.f1 - q.f0)) ∧ HoldV w' c (lpV (lostP q) pv nx) lpT ∧ w.grownBy w' (some c) := by
  obtain ⟨x0, x1, x2, x3, x4, x5⟩ := q
  have HC := hide h
  have c4 := h.cell 4 _ rfl; have c5 := h.cell 5 _ rfl; have cf := h.frozen
  have HC2 : Hid (HoldV ((w.setCell ⟨c, 4, none⟩ (.bool false)).setCell ⟨c, 5, none⟩ (.bool true)) c (lpV ⟨x0, x1, x2, x3, false, true⟩ pv nx) lpT) := hide (hv_set (hv_set h 4 _) 5 _)
  have HG : Hid (w.grownBy ((w.setCell ⟨c, 4, none⟩ (.bool false)).setCell ⟨c, 5, none⟩ (.bool true)) (some c)) := hide (gr_set (gr_set (grown_reflp _ _) 4 _) 5 _)
  have CZ := hide (size_walk x0 x1 x2 x3 false true ((w.setCell ⟨c, 4, none⟩ (.bool false)).setCell ⟨c, 5, none⟩ (.bool true)) h0 h1 h2)
  clear h h0 h1 h2
  go_enter Try.func34, Try.ntmps34
  go_upto_region 2 with fail
  clear c4 c5 cf
  generalize (w.setCell ⟨c, 4, none⟩ (.bool false)).setCell ⟨c, 5, none⟩ (.bool true) = W at *
  have c0 := HC2.out.cell 0 _ rfl; have c1 := HC2.out.cell 1 _ rfl; have c2 := HC2.out.cell 2 _ rfl; have c3 := HC2.out.cell 3 _ rfl; have c4 := HC2.out.cell 4 _ rfl; have c5 := HC2.out.cell 5 _ rfl
  go_wp2_with fail
  refine CZ.out.mono ?_
  rintro e w2 ⟨rfl, hb2⟩
  go_wp2_with fail
  go_ret
  exact ⟨rfl, HC2.out.next hb2, ⟨hb2.os.trans HG.out.os, hb2.tape.trans HG.out.tape, hb2.output.trans HG.out.output, Nat.le_trans HG.out.size hb2.size, fun k hk hne => (hb2.block k (Nat.lt_of_lt_of_le hk HG.out.size)).trans (HG.out.block k hk hne)⟩⟩
/-- The linked pieces, the first ones changed. -/
def chgN (f : PieceM → PieceM) (ns : List (Nat × PieceM)) : List (Nat × PieceM) := ns.map (fun p => (p.1, f p.2))
theorem chgN_bks (f : PieceM → PieceM) (ns : List (Nat × PieceM)) : bks (chgN f ns) = bks ns := by simp [bks, chgN]
theorem chgN_snd (f : PieceM → PieceM) (ns : List (Nat × PieceM)) : (chgN f ns).map Prod.snd = (ns.map Prod.snd).map f := by simp [chgN]
end Go.Proofs.Ytfffkgladjphoaa
