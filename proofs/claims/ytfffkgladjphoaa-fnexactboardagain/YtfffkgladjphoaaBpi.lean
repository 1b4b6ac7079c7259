/-
Contracts of functions of this seat.
-/
import Derived.Test.YtfffkgladjphoaaRows
import Derived.WalkKit
import Derived.ProofKit
import Derived.OpenShut
import Derived.Test.YtfffkgladjphoaaBst
import Derived.Lib.MinMax
namespace Go.Proofs.Ytfffkgladjphoaa
open Go.ChangeShapes Go.WideShapes Go.ChangeAt Go.RowKit
set_option linter.unusedVariables false
set_option maxRecDepth 100000
/-- The cells of a slice that came in, as values. -/
def ArrP (w : World) (a : Option Addr) (vs : List Value) : Prop := ∀ j, j < vs.length → ∃ b off, a = some ⟨b, off, none⟩ ∧ b < w.heap.size ∧ w.cell? ⟨b, off + j, none⟩ = vs[j]?
theorem ArrP.below {B : Nat} {w w' : World} {a : Option Addr} {vs : List Value} (h : ArrP w a vs) (hb : Below B w w') (hB : w.heap.size ≤ B) : ArrP w' a vs := by
  intro j hj
  obtain ⟨b, off, e, hs, hc⟩ := h j hj
  exact ⟨b, off, e, Nat.lt_of_lt_of_le hs hb.size, by rw [hb.cell (p := ⟨b, off + j, none⟩) (by show b < B; omega)]; exact hc⟩
/-- A row that is being filled: its first m cells are known. -/
def FilledV (w : World) (B e K : Nat) (v : Value) (n : Nat) (vs : List Value) (m : Nat) : Prop := ∃ xs, w.ownsRow B e K v n xs ∧ ∀ q, q < m → xs[q]? = vs[q]?
theorem FilledV.next {w w' : World} {B e K n m : Nat} {v : Value} {vs : List Value} (h : FilledV w B e K v n vs m) (hb : Below w.heap.size w w') : FilledV w' B e K v n vs m := by
  obtain ⟨xs, ho, hx⟩ := h
  refine ⟨xs, ⟨ho.1, ?_⟩, hx⟩
  rcases ho.2 with h0 | ⟨g, cap, cur, hv, hB, hg, hrest⟩
  · exact .inl h0
  · exact .inr ⟨g, cap, cur, hv, hB, by rw [hb.block g (Array.getElem?_eq_some_iff.1 hg).1]; exact hg, hrest⟩
theorem FilledV.old {w : World} {B e K n m g cap : Nat} {vs : List Value} (h : FilledV w B e K (.slice (some ⟨g, 0, none⟩) n cap) n vs m) (q : Nat) (hq : q < n * K) : ∃ o, w.cell? ⟨g, q, none⟩ = some o := by
  obtain ⟨xs, ho, hx⟩ := h
  exact ⟨_, by rw [ho.cellAt q hq]; exact List.getElem?_eq_getElem (by rw [ho.1]; exact hq)⟩
theorem FilledV.frozen {w : World} {B e K n m g cap : Nat} {vs : List Value} (h : FilledV w B e K (.slice (some ⟨g, 0, none⟩) n cap) n vs m) (q : Nat) : w.frozen? ⟨g, q, none⟩ = false := by
  obtain ⟨xs, ho, hx⟩ := h
  exact ho.frozenAt q
theorem FilledV.step {w : World} {B e K n m g cap : Nat} {vs : List Value} {u : Value} (h : FilledV w B e K (.slice (some ⟨g, 0, none⟩) n cap) n vs m) (hm : m < n * K) (hz : vs[m]? = some u) : FilledV (w.setCell ⟨g, m, none⟩ u) B e K (.slice (some ⟨g, 0, none⟩) n cap) n vs (m + 1) := by
  obtain ⟨xs, ho, hx⟩ := h
  refine ⟨xs.set m u, (ho.stored m _).1, fun q hq => ?_⟩
  by_cases e : q = m
  · subst e; rw [hz]; exact List.getElem?_set_self (by rw [ho.1]; exact hm)
  · rw [List.getElem?_set_ne (fun h => e h.symm)]; exact hx q (by omega)
theorem FilledV.done {w : World} {B e K n : Nat} {v : Value} {vs : List Value} (h : FilledV w B e K v n vs (n * K)) (hn : vs.length = n * K) : ownsAt w B e K v n vs := by
  obtain ⟨xs, ho, hx⟩ := h
  have : xs = vs := by
    apply List.ext_getElem?
    intro q
    by_cases hq : q < vs.length
    · exact hx q (by omega)
    · rw [List.getElem?_eq_none (by rw [ho.1]; omega), List.getElem?_eq_none (by omega)]
  rw [← this]
  exact ownsAt.of_row ho
theorem holds_vals {w : World} {B : Nat} : ∀ (vs : List Value) (xs : List Value) (bs : List Nat), HoldsL w B (vs.map D.c) xs bs ↔ xs = vs ∧ bs = []
  | [], xs, bs => by rw [List.map_nil, holdsL_nil]
  | u :: vs, xs, bs => by
    rw [List.map_cons, holdsL_cons]
    constructor
    · rintro ⟨x, xt, b1, b2, rfl, rfl, h1, h2⟩
      obtain ⟨e1, e2⟩ := (holds_vals vs xt b2).1 h2
      obtain ⟨e3, e4⟩ := holds_c.1 h1
      rw [e1, e2, e3, e4]
      exact ⟨rfl, rfl⟩
    · rintro ⟨rfl, rfl⟩
      exact ⟨_, vs, [], [], rfl, rfl, holds_c.2 ⟨rfl, rfl⟩, (holds_vals vs _ _).2 ⟨rfl, rfl⟩⟩
theorem holds_row {w : World} {B e K n : Nat} {vs : List Value} {v : Value} {bs : List Nat} : Holds w B (.s e K n (vs.map D.c)) v bs ↔ ownsAt w B e K v n vs ∧ bs = v.ownBlock.toList := by
  rw [holds_s]
  constructor
  · rintro ⟨xs, fs, ho, hl, rfl⟩
    obtain ⟨rfl, rfl⟩ := (holds_vals vs xs fs).1 hl
    exact ⟨ho, by simp⟩
  · rintro ⟨ho, rfl⟩
    exact ⟨_, [], ho, (holds_vals vs _ _).2 ⟨rfl, rfl⟩, by simp⟩
theorem vat {α : Type} (f : α → List Value) (K : Nat) (hf : ∀ a, (f a).length = K) : ∀ (os : List α) (i j : Nat) (hi : i < os.length), j < K → (os.flatMap f)[i * K + j]? = (f os[i])[j]?
  | [], i, j, hi, _ => by simp at hi
  | o :: os, 0, j, _, hj => by
    rw [List.flatMap_cons, Nat.zero_mul, Nat.zero_add, List.getElem?_append_left (by rw [hf]; exact hj)]; rfl
  | o :: os, i + 1, j, hi, hj => by
    have hi' : i < os.length := by simpa using hi
    rw [List.flatMap_cons, List.getElem?_append_right (by rw [hf, Nat.succ_mul]; omega), hf, show (i + 1) * K + j - K = i * K + j by rw [Nat.succ_mul]; omega, vat f K hf os i j hi' hj]
    rfl
theorem vlen {α : Type} (f : α → List Value) (K : Nat) (hf : ∀ a, (f a).length = K) : ∀ (os : List α), (os.flatMap f).length = os.length * K
  | [] => by simp
  | o :: os => by rw [List.flatMap_cons, List.length_append, hf, vlen f K hf os, List.length_cons, Nat.succ_mul]; omega

set_option maxHeartbeats 2000000 in
theorem toPiece_walk (x0 : Int) (x1 : Int) (x2 : Int) (x3 : Int) (x4 : Bool) (x5 : Bool) (w : World) : Calls Try.prog 30 #[.agg #[.int .i64 x0, .int .i64 x1, .int .i64 x2, .int .i64 x3, .bool x4, .bool x5]] w fun e w' => e = .returned (.agg #[.int .i64 x0, .int .i64 x1, .int .i64 x2, .int .i64 x3, .bool x4, .bool x5]) ∧ Below w.heap.size w w' := by
  go_enter Try.func30, Try.ntmps30
  go_wp2_with fail
  exact bodyPost_ret (v := .agg #[.int .i64 x0, .int .i64 x1, .int .i64 x2, .int .i64 x3, .bool x4, .bool x5]) (by simp [results, Try.results30, go_sem]) rfl ⟨rfl, (((Below.refl _ _).alloc (Nat.le_refl _) _).alloc (by simp) _).alloc (by simp; omega) _⟩
set_option maxHeartbeats 2000000 in
theorem eqPiece_walk (x0 : Int) (x1 : Int) (x2 : Int) (x3 : Int) (x4 : Bool) (x5 : Bool) (w : World) : Calls Try.prog 14 #[.agg #[.int .i64 x0, .int .i64 x1, .int .i64 x2, .int .i64 x3, .bool x4, .bool x5], .agg #[.int .i64 x0, .int .i64 x1, .int .i64 x2, .int .i64 x3, .bool x4, .bool x5]] w fun e w' => e = .returned (.bool true) ∧ Below w.heap.size w w' := by
  have nb4 : (x4 != x4) = false := by simp
  have nb5 : (x5 != x5) = false := by simp
  go_enter Try.func14, Try.ntmps14
  go_wp2
  go_ret
  exact ⟨rfl, ((Below.refl w.heap.size w).alloc (Nat.le_refl _) _).alloc (by simp) _⟩

structure PieceM where
  f0 : Int
  f1 : Int
  f2 : Int
  f3 : Int
  f4 : Bool
  f5 : Bool
def dPiece (o : PieceM) : List D := [.c (.int .i64 o.f0), .c (.int .i64 o.f1), .c (.int .i64 o.f2), .c (.int .i64 o.f3), .c (.bool o.f4), .c (.bool o.f5)]
theorem dPiece_len (o : PieceM) : (dPiece o).length = 6 := rfl
def dPieceS (os : List PieceM) : D := .s 36 6 os.length (os.flatMap dPiece)
/-- Its bytes are bytes, and not too many. -/
def okPiece (o : PieceM) : Prop := True
theorem Piece_at0 (os : List PieceM) (i : Nat) (h : i < os.length) : (os.flatMap dPiece)[i * 6]? = some (.c (.int .i64 os[i].f0)) := flat_get dPiece 6 dPiece_len os i 0 h (by omega)
theorem Piece_at1 (os : List PieceM) (i : Nat) (h : i < os.length) : (os.flatMap dPiece)[i * 6 + 1]? = some (.c (.int .i64 os[i].f1)) := flat_get dPiece 6 dPiece_len os i 1 h (by omega)
theorem Piece_at2 (os : List PieceM) (i : Nat) (h : i < os.length) : (os.flatMap dPiece)[i * 6 + 2]? = some (.c (.int .i64 os[i].f2)) := flat_get dPiece 6 dPiece_len os i 2 h (by omega)
theorem Piece_at3 (os : List PieceM) (i : Nat) (h : i < os.length) : (os.flatMap dPiece)[i * 6 + 3]? = some (.c (.int .i64 os[i].f3)) := flat_get dPiece 6 dPiece_len os i 3 h (by omega)
theorem Piece_at4 (os : List PieceM) (i : Nat) (h : i < os.length) : (os.flatMap dPiece)[i * 6 + 4]? = some (.c (.bool os[i].f4)) := flat_get dPiece 6 dPiece_len os i 4 h (by omega)
theorem Piece_at5 (os : List PieceM) (i : Nat) (h : i < os.length) : (os.flatMap dPiece)[i * 6 + 5]? = some (.c (.bool os[i].f5)) := flat_get dPiece 6 dPiece_len os i 5 h (by omega)
theorem Piece_sz (os : List PieceM) (i : Nat) (h : i < os.length) (k kk : Nat) (hk : kk = k + szL ((os.flatMap dPiece).take (i * 6))) : k + szL ((os.flatMap dPiece).take (i * 6)) = kk + 0 ∧ k + szL ((os.flatMap dPiece).take (i * 6 + 1)) = kk + 1 ∧ k + szL ((os.flatMap dPiece).take (i * 6 + 2)) = kk + 2 ∧ k + szL ((os.flatMap dPiece).take (i * 6 + 3)) = kk + 3 ∧ k + szL ((os.flatMap dPiece).take (i * 6 + 4)) = kk + 4 ∧ k + szL ((os.flatMap dPiece).take (i * 6 + 5)) = kk + 5 ∧ k + szL ((os.flatMap dPiece).take ((i + 1) * 6)) = kk + 6 := by
  have s0 : k + szL ((os.flatMap dPiece).take (i * 6)) = kk + 0 := by omega
  have t0 := szL_take (os.flatMap dPiece) (i * 6) _ (Piece_at0 os i h)
  have s1 : k + szL ((os.flatMap dPiece).take (i * 6 + 1)) = kk + 1 := by
    rw [show i * 6 + 1 = i * 6 + 1 from rfl, t0]
    simp only [szD]
    omega
  have t1 := szL_take (os.flatMap dPiece) (i * 6 + 1) _ (Piece_at1 os i h)
  have s2 : k + szL ((os.flatMap dPiece).take (i * 6 + 2)) = kk + 2 := by
    rw [show i * 6 + 2 = i * 6 + 1 + 1 from rfl, t1]
    simp only [szD]
    omega
  have t2 := szL_take (os.flatMap dPiece) (i * 6 + 2) _ (Piece_at2 os i h)
  have s3 : k + szL ((os.flatMap dPiece).take (i * 6 + 3)) = kk + 3 := by
    rw [show i * 6 + 3 = i * 6 + 2 + 1 from rfl, t2]
    simp only [szD]
    omega
  have t3 := szL_take (os.flatMap dPiece) (i * 6 + 3) _ (Piece_at3 os i h)
  have s4 : k + szL ((os.flatMap dPiece).take (i * 6 + 4)) = kk + 4 := by
    rw [show i * 6 + 4 = i * 6 + 3 + 1 from rfl, t3]
    simp only [szD]
    omega
  have t4 := szL_take (os.flatMap dPiece) (i * 6 + 4) _ (Piece_at4 os i h)
  have s5 : k + szL ((os.flatMap dPiece).take (i * 6 + 5)) = kk + 5 := by
    rw [show i * 6 + 5 = i * 6 + 4 + 1 from rfl, t4]
    simp only [szD]
    omega
  have t5 := szL_take (os.flatMap dPiece) (i * 6 + 5) _ (Piece_at5 os i h)
  have s6 : k + szL ((os.flatMap dPiece).take (i * 6 + 6)) = kk + 6 := by
    rw [show i * 6 + 6 = i * 6 + 5 + 1 from rfl, t5]
    simp only [szD]
    omega
  have e : (i + 1) * 6 = i * 6 + 6 := by omega
  rw [e]
  exact ⟨s0, s1, s2, s3, s4, s5, s6⟩
set_option maxHeartbeats 8000000 in
theorem markPieceS_some (g off cap n B : Nat) (os : List PieceM) (bs : List Nat) (k : Nat) (w : World) (hn : os.length = n) (h : Holds w B (dPieceS os) (.slice (some ⟨g, off, none⟩) n cap) bs) (hnd : bs.Nodup) (hm : n ≤ 1073741824) (hk : k + szL (os.flatMap dPiece) ≤ 1073741824) :
    Calls Try.prog 23 #[.slice (some ⟨g, off, none⟩) n cap, .int .i64 (k : Int)] w fun e w' => e = .returned (.int .i64 ((k + szL (os.flatMap dPiece) : Nat) : Int)) ∧ Holds w' B (mkD k (dPieceS os)) (.slice (some ⟨g, off, none⟩) n cap) bs ∧ Only bs w w' := by
  unfold dPieceS at h ⊢
  rw [hn] at h ⊢
  have HN := hide hn
  have HO := hide h
  have HND := hide hnd
  have HG := hide h.mine
  have HK := hide hk
  clear hn h hnd hk
  go_enter Try.func23, Try.ntmps23
  go_wp2_with fail
  go_loopw [1, 5] (fun s t w2 => ∃ i : Nat, i ≤ n ∧ s = .int .i64 ((k + szL ((os.flatMap dPiece).take (i * 6)) : Nat) : Int) ∧ t = .int .i64 i ∧ Hid (Holds w2 B (.s 36 6 n (mdL k (os.flatMap dPiece) (i * 6))) (.slice (some ⟨g, off, none⟩) n cap) bs) ∧ Only bs w w2) (fun _ t _ => n - (intOf t).toNat)
  case atStart => exact ⟨0, Nat.zero_le _, by simp [szL], rfl, hide (by rw [Nat.zero_mul, mdL_zero]; exact HO.out), Only.refl _ _⟩
  case round =>
    obtain ⟨i, hi, rfl, rfl, HO, hon⟩ := hrel
    by_cases hlt : i < n
    · have hi2 : i < os.length := by rw [HN.out]; exact hlt
      obtain ⟨kk, hkk⟩ : ∃ kk, kk = k + szL ((os.flatMap dPiece).take (i * 6)) := ⟨_, rfl⟩
      obtain ⟨s0, s1, s2, s3, s4, s5, s6⟩ := Piece_sz os i hi2 k kk hkk
      have hle := szL_take_le (os.flatMap dPiece) ((i + 1) * 6)
      have hkb : kk + 6 ≤ 1073741824 := by have := HK.out; omega
      rw [← hkk]
      have HFIN := hide s6
      have HS0 := hide s0
      have HS1 := hide s1
      have HS2 := hide s2
      have HS3 := hide s3
      have HS4 := hide s4
      have HS5 := hide s5
      clear s0 s1 s2 s3 s4 s5 s6 hle hkk
      have HG0 := hide (Piece_at0 os i hi2)
      have HG1 := hide (Piece_at1 os i hi2)
      have HG2 := hide (Piece_at2 os i hi2)
      have HG3 := hide (Piece_at3 os i hi2)
      have HG4 := hide (Piece_at4 os i hi2)
      have HG5 := hide (Piece_at5 os i hi2)
      generalize hz0 : os[i].f0 = z0 at *
      clear hz0
      generalize hz1 : os[i].f1 = z1 at *
      clear hz1
      generalize hz2 : os[i].f2 = z2 at *
      clear hz2
      generalize hz3 : os[i].f3 = z3 at *
      clear hz3
      generalize hz4 : os[i].f4 = z4 at *
      clear hz4
      generalize hz5 : os[i].f5 = z5 at *
      clear hz5
      have a0 := HO.out.cellA (A := off + i * 6) (m := i * 6) (by omega) (by rw [mdL_ge _ _ _ _ (by omega)]; exact HG0.out)
      have a1 := HO.out.cellA (A := off + i * 6 + 1) (m := i * 6 + 1) (by omega) (by rw [mdL_ge _ _ _ _ (by omega)]; exact HG1.out)
      have a2 := HO.out.cellA (A := off + i * 6 + 2) (m := i * 6 + 2) (by omega) (by rw [mdL_ge _ _ _ _ (by omega)]; exact HG2.out)
      have a3 := HO.out.cellA (A := off + i * 6 + 3) (m := i * 6 + 3) (by omega) (by rw [mdL_ge _ _ _ _ (by omega)]; exact HG3.out)
      have a4 := HO.out.cellA (A := off + i * 6 + 4) (m := i * 6 + 4) (by omega) (by rw [mdL_ge _ _ _ _ (by omega)]; exact HG4.out)
      have a5 := HO.out.cellA (A := off + i * 6 + 5) (m := i * 6 + 5) (by omega) (by rw [mdL_ge _ _ _ _ (by omega)]; exact HG5.out)
      have ff : ∀ q, wr.frozen? ⟨g, q, none⟩ = false := fun q => HO.out.frozen q
      have m0 := HO.out.markA HND.out (A := off + i * 6) (by omega) HG0.out (.int .i64 ((kk : Int))) (by rw [HS0.out, mkV_i64]; congr 1 <;> omega)
      have m1 := m0.1.markA HND.out (A := off + i * 6 + 1) (by omega) HG1.out (.int .i64 ((kk : Int) + 1)) (by rw [HS1.out, mkV_i64]; congr 1 <;> omega)
      have m2 := m1.1.markA HND.out (A := off + i * 6 + 2) (by omega) HG2.out (.int .i64 ((kk : Int) + 1 + 1)) (by rw [HS2.out, mkV_i64]; congr 1 <;> omega)
      have m3 := m2.1.markA HND.out (A := off + i * 6 + 3) (by omega) HG3.out (.int .i64 ((kk : Int) + 1 + 1 + 1)) (by rw [HS3.out, mkV_i64]; congr 1 <;> omega)
      have m4 := m3.1.markA HND.out (A := off + i * 6 + 4) (by omega) HG4.out (.bool (((kk : Int) + 1 + 1 + 1 + 1) % 3 == 0)) (by rw [HS4.out, mkV_bool, ← mark_bool]; congr 3 <;> omega)
      have m5 := m4.1.markA HND.out (A := off + i * 6 + 5) (by omega) HG5.out (.bool (((kk : Int) + 1 + 1 + 1 + 1 + 1) % 3 == 0)) (by rw [HS5.out, mkV_bool, ← mark_bool]; congr 3 <;> omega)
      have on0 : Only [g] wr ((((((wr.setCell ⟨g, off + i * 6, none⟩ (.int .i64 ((kk : Int)))).setCell ⟨g, off + i * 6 + 1, none⟩ (.int .i64 ((kk : Int) + 1))).setCell ⟨g, off + i * 6 + 2, none⟩ (.int .i64 ((kk : Int) + 1 + 1))).setCell ⟨g, off + i * 6 + 3, none⟩ (.int .i64 ((kk : Int) + 1 + 1 + 1))).setCell ⟨g, off + i * 6 + 4, none⟩ (.bool (((kk : Int) + 1 + 1 + 1 + 1) % 3 == 0))).setCell ⟨g, off + i * 6 + 5, none⟩ (.bool (((kk : Int) + 1 + 1 + 1 + 1 + 1) % 3 == 0))) := ((((((Only.refl [g] _).trans m0.2.1).trans m1.2.1).trans m2.2.1).trans m3.2.1).trans m4.2.1).trans m5.2.1
      have HXE := hide m5.1
      have HONE := hide on0
      clear m0 m1 m2 m3 m4 m5 on0
      go_wp2_with fail
      exact ⟨⟨i + 1, by omega, by rw [HFIN.out]; congr 1 <;> omega, by go_num, hide (by rw [show (i + 1) * 6 = i * 6 + 6 by omega]; exact HXE.out), (hon).trans (HONE.out.mono (by intro x hx; rw [List.mem_singleton.1 hx]; exact HG.out))⟩, by simp [intOf]; omega⟩
    · have hi' : i = n := by omega
      subst hi'
      have HE : Hid (mdL k (os.flatMap dPiece) (i * 6) = mkL k (os.flatMap dPiece)) := hide (mdL_end k _ _ (by rw [flat_len dPiece 6 dPiece_len, HN.out]))
      have HE2 : Hid ((os.flatMap dPiece).take (i * 6) = os.flatMap dPiece) := hide (List.take_of_length_le (by rw [flat_len dPiece 6 dPiece_len, HN.out]; exact Nat.le_refl _))
      have HFN : Hid (k + szL ((os.flatMap dPiece).take (i * 6)) = k + szL (os.flatMap dPiece)) := hide (by rw [HE2.out])
      have hbd : k + szL ((os.flatMap dPiece).take (i * 6)) ≤ 1073741824 := by rw [HFN.out]; exact HK.out
      generalize k + szL ((os.flatMap dPiece).take (i * 6)) = fin at *
      go_wp2_with fail
      go_ret
      exact ⟨ret_int (by rw [HFN.out]), by simp only [mkD]; rw [← HE.out]; exact HO.out, hon⟩
theorem markPieceS_d (os : List PieceM) (v : Value) (B : Nat) (bs : List Nat) (k : Nat) (w : World) (h : Holds w B (dPieceS os) v bs) (hnd : bs.Nodup) (hm : os.length ≤ 1073741824) (hk : k + szL (os.flatMap dPiece) ≤ 1073741824) :
    Calls Try.prog 23 #[v, .int .i64 (k : Int)] w fun e w' => e = .returned (.int .i64 ((k + szL (os.flatMap dPiece) : Nat) : Int)) ∧ Holds w' B (mkD k (dPieceS os)) v bs ∧ Only bs w w' := by
  rcases Holds.form h with ⟨rfl, h0, _⟩ | ⟨g, off, cap, rfl, _⟩
  · have e : os = [] := List.length_eq_zero_iff.1 h0
    subst e
    have CN : Calls Try.prog 23 #[.slice none 0 0, .int .i64 (k : Int)] w fun e w' => e = .returned (.int .i64 (k : Int)) ∧ w' = w := by
      go_enter Try.func23, Try.ntmps23
      go_wp2_with fail
      go_loop [1, 5] (fun s t => s = .int .i64 (k : Int) ∧ t = .int .i64 0) (fun _ _ => 0)
      case atStart => exact ⟨rfl, rfl⟩
      case round =>
        obtain ⟨rfl, rfl⟩ := hrel
        go_wp2_with fail
        go_ret
        exact ⟨rfl, rfl⟩
    refine CN.mono ?_
    rintro e w' ⟨rfl, rfl⟩
    exact ⟨by simp [szL], h, Only.refl _ _⟩
  · exact markPieceS_some g off cap _ B os bs k w rfl h hnd hm hk
set_option maxHeartbeats 8000000 in
theorem heldPieceS_some (g off cap n B : Nat) (os : List PieceM) (bs : List Nat) (k : Nat) (w : World) (hn : os.length = n) (h : Holds w B (mkD k (dPieceS os)) (.slice (some ⟨g, off, none⟩) n cap) bs) (hm : n ≤ 1073741824) (hk : k + szL (os.flatMap dPiece) ≤ 1073741824) :
    Calls Try.prog 24 #[.slice (some ⟨g, off, none⟩) n cap, .int .i64 (k : Int)] w fun e w' => e = .returned (.int .i64 ((k + szL (os.flatMap dPiece) : Nat) : Int)) ∧ w' = w := by
  unfold dPieceS at h
  simp only [mkD] at h
  rw [hn] at h
  have HN := hide hn
  have HO := hide h
  have HK := hide hk
  clear hn h hk
  go_enter Try.func24, Try.ntmps24
  go_wp2_with fail
  go_loop [1, 5] (fun s t => ∃ i : Nat, i ≤ n ∧ s = .int .i64 ((k + szL ((os.flatMap dPiece).take (i * 6)) : Nat) : Int) ∧ t = .int .i64 i) (fun _ t => n - (intOf t).toNat)
  case atStart => exact ⟨0, Nat.zero_le _, by simp [szL], rfl⟩
  case round =>
    obtain ⟨i, hi, rfl, rfl⟩ := hrel
    by_cases hlt : i < n
    · have hi2 : i < os.length := by rw [HN.out]; exact hlt
      obtain ⟨kk, hkk⟩ : ∃ kk, kk = k + szL ((os.flatMap dPiece).take (i * 6)) := ⟨_, rfl⟩
      obtain ⟨s0, s1, s2, s3, s4, s5, s6⟩ := Piece_sz os i hi2 k kk hkk
      have hle := szL_take_le (os.flatMap dPiece) ((i + 1) * 6)
      have hkb : kk + 6 ≤ 1073741824 := by have := HK.out; omega
      rw [← hkk]
      have HFIN := hide s6
      have g0 := mkL_get _ k _ _ (Piece_at0 os i hi2)
      rw [s0] at g0
      have g1 := mkL_get _ k _ _ (Piece_at1 os i hi2)
      rw [s1] at g1
      have g2 := mkL_get _ k _ _ (Piece_at2 os i hi2)
      rw [s2] at g2
      have g3 := mkL_get _ k _ _ (Piece_at3 os i hi2)
      rw [s3] at g3
      have g4 := mkL_get _ k _ _ (Piece_at4 os i hi2)
      rw [s4] at g4
      have g5 := mkL_get _ k _ _ (Piece_at5 os i hi2)
      rw [s5] at g5
      clear s0 s1 s2 s3 s4 s5 s6 hle hkk
      have a0 : w.cell? ⟨g, off + i * 6, none⟩ = some (.int .i64 ((kk : Int))) := by rw [HO.out.cellA (A := off + i * 6) (m := i * 6) (by omega) g0, mkV_i64]; congr 2 <;> omega
      have a1 : w.cell? ⟨g, off + i * 6 + 1, none⟩ = some (.int .i64 ((kk : Int) + 1)) := by rw [HO.out.cellA (A := off + i * 6 + 1) (m := i * 6 + 1) (by omega) g1, mkV_i64]; congr 2 <;> omega
      have a2 : w.cell? ⟨g, off + i * 6 + 2, none⟩ = some (.int .i64 ((kk : Int) + 1 + 1)) := by rw [HO.out.cellA (A := off + i * 6 + 2) (m := i * 6 + 2) (by omega) g2, mkV_i64]; congr 2 <;> omega
      have a3 : w.cell? ⟨g, off + i * 6 + 3, none⟩ = some (.int .i64 ((kk : Int) + 1 + 1 + 1)) := by rw [HO.out.cellA (A := off + i * 6 + 3) (m := i * 6 + 3) (by omega) g3, mkV_i64]; congr 2 <;> omega
      have a4 : w.cell? ⟨g, off + i * 6 + 4, none⟩ = some (.bool (((kk : Int) + 1 + 1 + 1 + 1) % 3 == 0)) := by rw [HO.out.cellA (A := off + i * 6 + 4) (m := i * 6 + 4) (by omega) g4, mkV_bool, ← mark_bool]; congr 4 <;> omega
      have a5 : w.cell? ⟨g, off + i * 6 + 5, none⟩ = some (.bool (((kk : Int) + 1 + 1 + 1 + 1 + 1) % 3 == 0)) := by rw [HO.out.cellA (A := off + i * 6 + 5) (m := i * 6 + 5) (by omega) g5, mkV_bool, ← mark_bool]; congr 4 <;> omega
      have HFIN' : Hid (k + szL ((os.flatMap dPiece).take ((i + 1) * 6)) = kk + 6) := hide (by have := HFIN.out; omega)
      clear HFIN g0 g1 g2 g3 g4 g5 
      go_wp2_with fail
      exact ⟨⟨i + 1, by omega, by rw [HFIN'.out]; congr 1 <;> omega, by go_num⟩, by simp [intOf]; omega⟩
    · have hi' : i = n := by omega
      subst hi'
      have HE2 : Hid ((os.flatMap dPiece).take (i * 6) = os.flatMap dPiece) := hide (List.take_of_length_le (by rw [flat_len dPiece 6 dPiece_len, HN.out]; exact Nat.le_refl _))
      have HFN : Hid (k + szL ((os.flatMap dPiece).take (i * 6)) = k + szL (os.flatMap dPiece)) := hide (by rw [HE2.out])
      have hbd : k + szL ((os.flatMap dPiece).take (i * 6)) ≤ 1073741824 := by rw [HFN.out]; exact HK.out
      generalize k + szL ((os.flatMap dPiece).take (i * 6)) = fin at *
      go_wp2_with fail
      go_ret
      exact ⟨ret_int (by have := HFN.out; omega), rfl⟩
theorem heldPieceS_d (os : List PieceM) (v : Value) (B : Nat) (bs : List Nat) (k : Nat) (w : World) (h : Holds w B (mkD k (dPieceS os)) v bs) (hm : os.length ≤ 1073741824) (hk : k + szL (os.flatMap dPiece) ≤ 1073741824) :
    Calls Try.prog 24 #[v, .int .i64 (k : Int)] w fun e w' => e = .returned (.int .i64 ((k + szL (os.flatMap dPiece) : Nat) : Int)) ∧ w' = w := by
  have h' : Holds w B (.s 36 6 os.length (mkL k (os.flatMap dPiece))) v bs := h
  rcases Holds.form h' with ⟨rfl, h0, _⟩ | ⟨g, off, cap, rfl, _⟩
  · have e : os = [] := List.length_eq_zero_iff.1 h0
    subst e
    have CN : Calls Try.prog 24 #[.slice none 0 0, .int .i64 (k : Int)] w fun e w' => e = .returned (.int .i64 (k : Int)) ∧ w' = w := by
      go_enter Try.func24, Try.ntmps24
      go_wp2_with fail
      go_loop [1, 5] (fun s t => s = .int .i64 (k : Int) ∧ t = .int .i64 0) (fun _ _ => 0)
      case atStart => exact ⟨rfl, rfl⟩
      case round =>
        obtain ⟨rfl, rfl⟩ := hrel
        go_wp2_with fail
        go_ret
        exact ⟨rfl, rfl⟩
    refine CN.mono ?_
    rintro e w' ⟨rfl, rfl⟩
    exact ⟨by simp [szL], rfl⟩
  · exact heldPieceS_some g off cap _ B os bs k w rfl h hm hk
theorem eqPiece_d (o : PieceM) (B1 B2 : Nat) (w : World)  (hok : okPiece o) :
    Calls Try.prog 14 #[.agg #[.int .i64 o.f0, .int .i64 o.f1, .int .i64 o.f2, .int .i64 o.f3, .bool o.f4, .bool o.f5], .agg #[.int .i64 o.f0, .int .i64 o.f1, .int .i64 o.f2, .int .i64 o.f3, .bool o.f4, .bool o.f5]] w fun e w' => e = .returned (.bool true) ∧ Below w.heap.size w w' := by
  skip
  exact eqPiece_walk o.f0 o.f1 o.f2 o.f3 o.f4 o.f5    w 
set_option maxHeartbeats 8000000 in
theorem eqPieceS_d (os : List PieceM) (v1 v2 : Value) (B1 B2 : Nat) (f1 f2 : List Nat) (w : World) (h1 : Holds w B1 (dPieceS os) v1 f1) (h2 : Holds w B2 (dPieceS os) v2 f2) (hok : ∀ o ∈ os, okPiece o) (hm : os.length ≤ 1073741824) :
    Calls Try.prog 22 #[v1, v2] w fun e w' => e = .returned (.bool true) ∧ Below w.heap.size w w' := by
  obtain ⟨a1, c1, rfl⟩ := Holds.slice h1
  obtain ⟨a2, c2, rfl⟩ := Holds.slice h2
  have H1 := hide h1
  have H2 := hide h2
  have HOK := hide hok
  clear h1 h2 hok
  obtain ⟨n, hn⟩ : ∃ n, n = os.length := ⟨_, rfl⟩
  rw [← hn] at hm ⊢
  have HN := hide hn
  unfold dPieceS at H1 H2
  rw [← hn] at H1 H2
  clear hn
  go_enter Try.func22, Try.ntmps22
  go_wp2_with fail
  go_loopw [5] (fun t w2 => ∃ i : Nat, i ≤ n ∧ t = .int .i64 i ∧ Below w.heap.size w w2) (fun t _ => n - (intOf t).toNat)
  case atStart => exact ⟨0, Nat.zero_le _, rfl, Below.refl _ _⟩
  case round =>
    obtain ⟨i, hi, rfl, hbel⟩ := hrel
    by_cases hlt : i < n
    · have hi2 : i < os.length := by rw [← HN.out]; exact hlt
      have K1 := H1.out.next hbel
      have K2 := H2.out.next hbel
      rcases Holds.form K1 with ⟨_, h0, _⟩ | ⟨g1, o1, k1, e1, _⟩
      · omega
      rcases Holds.form K2 with ⟨_, h0, _⟩ | ⟨g2, o2, k2, e2, _⟩
      · omega
      cases e1
      cases e2
      have hok := HOK.out os[i] (List.getElem_mem hi2)
      have p0 := cell_regrown (K1.cellA (A := o1 + i * 6) (m := i * 6) (by omega) (Piece_at0 os i hi2))
      have q0 := cell_regrown (K2.cellA (A := o2 + i * 6) (m := i * 6) (by omega) (Piece_at0 os i hi2))
      have p1 := cell_regrown (K1.cellA (A := o1 + i * 6 + 1) (m := i * 6 + 1) (by omega) (Piece_at1 os i hi2))
      have q1 := cell_regrown (K2.cellA (A := o2 + i * 6 + 1) (m := i * 6 + 1) (by omega) (Piece_at1 os i hi2))
      have p2 := cell_regrown (K1.cellA (A := o1 + i * 6 + 2) (m := i * 6 + 2) (by omega) (Piece_at2 os i hi2))
      have q2 := cell_regrown (K2.cellA (A := o2 + i * 6 + 2) (m := i * 6 + 2) (by omega) (Piece_at2 os i hi2))
      have p3 := cell_regrown (K1.cellA (A := o1 + i * 6 + 3) (m := i * 6 + 3) (by omega) (Piece_at3 os i hi2))
      have q3 := cell_regrown (K2.cellA (A := o2 + i * 6 + 3) (m := i * 6 + 3) (by omega) (Piece_at3 os i hi2))
      have p4 := cell_regrown (K1.cellA (A := o1 + i * 6 + 4) (m := i * 6 + 4) (by omega) (Piece_at4 os i hi2))
      have q4 := cell_regrown (K2.cellA (A := o2 + i * 6 + 4) (m := i * 6 + 4) (by omega) (Piece_at4 os i hi2))
      have p5 := cell_regrown (K1.cellA (A := o1 + i * 6 + 5) (m := i * 6 + 5) (by omega) (Piece_at5 os i hi2))
      have q5 := cell_regrown (K2.cellA (A := o2 + i * 6 + 5) (m := i * 6 + 5) (by omega) (Piece_at5 os i hi2))
      have cE : ∀ d q, Calls Try.prog 14 #[.agg #[.int .i64 os[i].f0, .int .i64 os[i].f1, .int .i64 os[i].f2, .int .i64 os[i].f3, .bool os[i].f4, .bool os[i].f5], .agg #[.int .i64 os[i].f0, .int .i64 os[i].f1, .int .i64 os[i].f2, .int .i64 os[i].f3, .bool os[i].f4, .bool os[i].f5]] (Go.Sort.grow (redrawn wr d) q) fun e w'' => e = .returned (.bool true) ∧ ∃ p : Regrown, w'' = Go.Sort.grow (redrawn wr p.d) p.os := fun d q => Calls.regrown_of (by
        have hn := below_regrown wr d q
        exact eqPiece_d os[i] B1 B2 (Go.Sort.grow (redrawn wr d) q)  hok)
      generalize os[i].f0 = z0 at *
      generalize os[i].f1 = z1 at *
      generalize os[i].f2 = z2 at *
      generalize os[i].f3 = z3 at *
      generalize os[i].f4 = z4 at *
      generalize os[i].f5 = z5 at *
      go_wp2_with fail
      refine wp_region_quiet_below (by kernel_rfl) (by kernel_rfl) ?_
      repeat (first | go_big_quiet_step ((go_at_call 14; exact cE _ _)) | quiet_step ((go_at_call 14; exact cE _ _)))
      refine wpQuiet_nil ?_
      intro _ hw'
      obtain ⟨⟨dq, osq⟩, hw''⟩ := hw'
      subst hw''
      go_wp2
      exact ⟨⟨i + 1, by omega, by go_num, below_then hbel dq osq⟩, by simp [intOf]; omega⟩
    · go_wp2
      go_ret
      exact ⟨rfl, hbel⟩

def valPiece (o : PieceM) : List Value := [.int .i64 o.f0, .int .i64 o.f1, .int .i64 o.f2, .int .i64 o.f3, .bool o.f4, .bool o.f5]
theorem valPiece_len (o : PieceM) : (valPiece o).length = 6 := rfl
theorem Piece_val0 (os : List PieceM) (i : Nat) (h : i < os.length) : (os.flatMap valPiece)[i * 6]? = some (.int .i64 os[i].f0) := vat valPiece 6 valPiece_len os i 0 h (by omega)
theorem Piece_val1 (os : List PieceM) (i : Nat) (h : i < os.length) : (os.flatMap valPiece)[i * 6 + 1]? = some (.int .i64 os[i].f1) := vat valPiece 6 valPiece_len os i 1 h (by omega)
theorem Piece_val2 (os : List PieceM) (i : Nat) (h : i < os.length) : (os.flatMap valPiece)[i * 6 + 2]? = some (.int .i64 os[i].f2) := vat valPiece 6 valPiece_len os i 2 h (by omega)
theorem Piece_val3 (os : List PieceM) (i : Nat) (h : i < os.length) : (os.flatMap valPiece)[i * 6 + 3]? = some (.int .i64 os[i].f3) := vat valPiece 6 valPiece_len os i 3 h (by omega)
theorem Piece_val4 (os : List PieceM) (i : Nat) (h : i < os.length) : (os.flatMap valPiece)[i * 6 + 4]? = some (.bool os[i].f4) := vat valPiece 6 valPiece_len os i 4 h (by omega)
theorem Piece_val5 (os : List PieceM) (i : Nat) (h : i < os.length) : (os.flatMap valPiece)[i * 6 + 5]? = some (.bool os[i].f5) := vat valPiece 6 valPiece_len os i 5 h (by omega)
theorem dPieceS_val (os : List PieceM) : dPieceS os = .s 36 6 os.length ((os.flatMap valPiece).map D.c) := by
  unfold dPieceS
  rw [List.map_flatMap]
  rfl
theorem PieceS_own {w : World} {B : Nat} {v : Value} {os : List PieceM} {bs : List Nat} : Holds w B (dPieceS os) v bs ↔ ownsAt w B 36 6 v os.length (os.flatMap valPiece) ∧ bs = v.ownBlock.toList := by rw [dPieceS_val]; exact holds_row
theorem Try.infoPiece : (Try.prog.info? 36).map (fun i => (i.zero, i.size, i.bytes)) = some (some (.agg #[.int .i64 0, .int .i64 0, .int .i64 0, .int .i64 0, .bool false, .bool false]), 6, 40) := by kernel_rfl
set_option maxHeartbeats 4000000 in
theorem toPieceS_walk (a : Option Addr) (n cap : Nat) (os : List PieceM) (w : World) (hn : os.length = n) (h : ArrP w a (os.flatMap valPiece)) (hm : n ≤ 1048576) :
    Calls Try.prog 18 #[.slice a n cap] w fun e w' => e = .returned (.slice (some ⟨w.heap.size, 0, none⟩) n n) ∧ ownsAt w' w.heap.size 36 6 (.slice (some ⟨w.heap.size, 0, none⟩) n n) n (os.flatMap valPiece) ∧ Below w.heap.size w w' := by
  obtain ⟨i, hi, hz0, hz1, hz2⟩ := info_parts Try.infoPiece
  have HL := hide (show (os.flatMap valPiece).length = n * 6 by rw [vlen valPiece 6 valPiece_len, hn])
  have HN := hide hn
  have HA := hide h
  clear hn h
  go_enter Try.func18, Try.ntmps18
  go_wp2_with (first | (at_make; refine wpList_make_full _ rfl _ _ 26 rfl w.heap.size 36 i _ 6 Try.underlying26 hi hz0 hz1 _ _ _ _ n rfl rfl rfl rfl (by rw [hz2]; omega) (by unfold maxLen; omega) (Nat.le_refl _) ?_))
  intro w1 hown hgrow
  have hbel : Below w.heap.size w w1 := (Below.refl _ _).grown hgrow (Nat.le_refl _) (fun k hk => by cases hk)
  have hsz : w.heap.size < w1.heap.size := (hown.lt w.heap.size rfl).2
  clear hgrow hi hz0 hz1 hz2
  have HO : Hid (FilledV w1 w.heap.size 36 6 (.slice (some ⟨w.heap.size, 0, none⟩) n n) n (os.flatMap valPiece) (0)) := hide ⟨_, hown, fun q hq => absurd hq (by omega)⟩
  clear hown
  go_wp2_with fail
  go_loopw [4] (fun t w2 => ∃ j : Nat, j ≤ n ∧ t = .int .i64 j ∧ Below w.heap.size w w2 ∧ w.heap.size < w2.heap.size ∧ Hid (FilledV w2 w.heap.size 36 6 (.slice (some ⟨w.heap.size, 0, none⟩) n n) n (os.flatMap valPiece) (j * 6))) (fun t _ => n - (intOf t).toNat)
  case atStart => exact ⟨0, Nat.zero_le _, rfl, hbel, hsz, hide (by rw [Nat.zero_mul]; exact HO.out)⟩
  case round =>
    obtain ⟨j, hj, rfl, hb, hs2, HF⟩ := hrel
    by_cases hlt : j < n
    · have hlt2 : j * 6 + 6 ≤ n * 6 := by omega
      have hjo : j < os.length := by rw [HN.out]; exact hlt
      obtain ⟨b, off, rfl, hbs, _⟩ := HA.out (j * 6) (by rw [HL.out]; omega)
      have c0 : wr.cell? ⟨b, off + (j * 6), none⟩ = some (.int .i64 os[j].f0) := by
        obtain ⟨b', o', e, _, c⟩ := HA.out (j * 6) (by rw [HL.out]; omega)
        cases e
        rw [hb.cell (p := ⟨b, off + (j * 6), none⟩) hbs, c]; exact Piece_val0 os j hjo
      have c1 : wr.cell? ⟨b, off + (j * 6 + 1), none⟩ = some (.int .i64 os[j].f1) := by
        obtain ⟨b', o', e, _, c⟩ := HA.out (j * 6 + 1) (by rw [HL.out]; omega)
        cases e
        rw [hb.cell (p := ⟨b, off + (j * 6 + 1), none⟩) hbs, c]; exact Piece_val1 os j hjo
      rw [← Nat.add_assoc] at c1
      have c2 : wr.cell? ⟨b, off + (j * 6 + 2), none⟩ = some (.int .i64 os[j].f2) := by
        obtain ⟨b', o', e, _, c⟩ := HA.out (j * 6 + 2) (by rw [HL.out]; omega)
        cases e
        rw [hb.cell (p := ⟨b, off + (j * 6 + 2), none⟩) hbs, c]; exact Piece_val2 os j hjo
      rw [← Nat.add_assoc] at c2
      have c3 : wr.cell? ⟨b, off + (j * 6 + 3), none⟩ = some (.int .i64 os[j].f3) := by
        obtain ⟨b', o', e, _, c⟩ := HA.out (j * 6 + 3) (by rw [HL.out]; omega)
        cases e
        rw [hb.cell (p := ⟨b, off + (j * 6 + 3), none⟩) hbs, c]; exact Piece_val3 os j hjo
      rw [← Nat.add_assoc] at c3
      have c4 : wr.cell? ⟨b, off + (j * 6 + 4), none⟩ = some (.bool os[j].f4) := by
        obtain ⟨b', o', e, _, c⟩ := HA.out (j * 6 + 4) (by rw [HL.out]; omega)
        cases e
        rw [hb.cell (p := ⟨b, off + (j * 6 + 4), none⟩) hbs, c]; exact Piece_val4 os j hjo
      rw [← Nat.add_assoc] at c4
      have c5 : wr.cell? ⟨b, off + (j * 6 + 5), none⟩ = some (.bool os[j].f5) := by
        obtain ⟨b', o', e, _, c⟩ := HA.out (j * 6 + 5) (by rw [HL.out]; omega)
        cases e
        rw [hb.cell (p := ⟨b, off + (j * 6 + 5), none⟩) hbs, c]; exact Piece_val5 os j hjo
      rw [← Nat.add_assoc] at c5
      have HX0 := hide (Piece_val0 os j hjo)
      have HX1 := hide (Piece_val1 os j hjo)
      have HX2 := hide (Piece_val2 os j hjo)
      have HX3 := hide (Piece_val3 os j hjo)
      have HX4 := hide (Piece_val4 os j hjo)
      have HX5 := hide (Piece_val5 os j hjo)
      generalize os[j].f0 = x0 at *
      generalize os[j].f1 = x1 at *
      generalize os[j].f2 = x2 at *
      generalize os[j].f3 = x3 at *
      generalize os[j].f4 = x4 at *
      generalize os[j].f5 = x5 at *
      have CT := hide (toPiece_walk x0 x1 x2 x3 x4 x5 wr)
      go_wp2_with fail
      refine CT.out.mono ?_
      rintro e w2 ⟨rfl, hw2⟩
      have hb2 : Below w.heap.size w w2 := hb.trans (hw2.mono (Nat.le_of_lt hs2))
      have hs3 : w.heap.size < w2.heap.size := Nat.lt_of_lt_of_le hs2 hw2.size
      have HF2 := hide (HF.out.next hw2)
      obtain ⟨p0, d0⟩ := HF2.out.old (j * 6) (by omega)
      obtain ⟨p1, d1⟩ := HF2.out.old (j * 6 + 1) (by omega)
      obtain ⟨p2, d2⟩ := HF2.out.old (j * 6 + 2) (by omega)
      obtain ⟨p3, d3⟩ := HF2.out.old (j * 6 + 3) (by omega)
      obtain ⟨p4, d4⟩ := HF2.out.old (j * 6 + 4) (by omega)
      obtain ⟨p5, d5⟩ := HF2.out.old (j * 6 + 5) (by omega)
      have hz : ∀ o, w2.frozen? ⟨w.heap.size, o, none⟩ = false := HF2.out.frozen
      clear hw2 CT HF
      go_wp2_with fail
      have s0 := HF2.out.step (m := j * 6) (u := .int .i64 x0) (by omega) HX0.out
      have s1 := s0.step (m := j * 6 + 1) (u := .int .i64 x1) (by omega) HX1.out
      have s2 := s1.step (m := j * 6 + 2) (u := .int .i64 x2) (by omega) HX2.out
      have s3 := s2.step (m := j * 6 + 3) (u := .int .i64 x3) (by omega) HX3.out
      have s4 := s3.step (m := j * 6 + 4) (u := .bool x4) (by omega) HX4.out
      have s5 := s4.step (m := j * 6 + 5) (u := .bool x5) (by omega) HX5.out
      exact ⟨⟨j + 1, by omega, by go_num, ((((((hb2.setCell (p := ⟨w.heap.size, j * 6, none⟩) (Nat.le_refl _) _).setCell (p := ⟨w.heap.size, j * 6 + 1, none⟩) (Nat.le_refl _) _).setCell (p := ⟨w.heap.size, j * 6 + 2, none⟩) (Nat.le_refl _) _).setCell (p := ⟨w.heap.size, j * 6 + 3, none⟩) (Nat.le_refl _) _).setCell (p := ⟨w.heap.size, j * 6 + 4, none⟩) (Nat.le_refl _) _).setCell (p := ⟨w.heap.size, j * 6 + 5, none⟩) (Nat.le_refl _) _), by simpa using hs3, hide (by rw [show (j + 1) * 6 = j * 6 + 5 + 1 by omega]; exact s5)⟩, by simp [intOf]; omega⟩
    · have hj' : j = n := by omega
      subst hj'
      go_wp2_with fail
      go_ret
      exact ⟨rfl, HF.out.done HL.out, hb⟩
theorem szPieceS_walk (a : Option Addr) (n cap : Nat) (left : Int) (w : World) (hm : n ≤ 9223372036854775807) (h0 : 0 ≤ left) (h1 : left ≤ 1048576) :
    Calls Try.prog 15 #[.slice a n cap, .int .i64 left] w fun e w' => e = .returned (.int .i64 (if left < (n : Int) then -1 else left - (n : Int))) ∧ w' = w := by
  by_cases h : left < (n : Int)
  · rw [if_pos h]
    go_enter Try.func15, Try.ntmps15
    go_wp2
    go_ret
    exact ⟨rfl, rfl⟩
  · rw [if_neg h]
    go_enter Try.func15, Try.ntmps15
    go_wp2
    go_ret
    exact ⟨rfl, rfl⟩
end Go.Proofs.Ytfffkgladjphoaa
