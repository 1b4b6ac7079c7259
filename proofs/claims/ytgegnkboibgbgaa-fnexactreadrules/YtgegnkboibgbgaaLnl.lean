/-
Contracts of functions of this seat.
-/
import Derived.Test.YtgegnkboibgbgaaRows
import Derived.WalkKit
import Derived.ProofKit
import Derived.OpenShut
import Derived.Test.YtgegnkboibgbgaaFdb
import Derived.Test.YtgegnkboibgbgaaLnw
import Derived.ArgAppend
import Derived.Laws.IdiomStrings
import Derived.Laws.BytesArg
namespace Go.Proofs.Ytgegnkboibgbgaa
open Go.ChangeShapes Go.WideShapes Go.ChangeAt Go.RowKit
set_option linter.unusedVariables false
set_option maxRecDepth 100000
theorem Try.infoB : (Try.prog.info? 5).map (fun i => (i.zero, i.size, i.bytes)) = some (some (.int .u8 0), 1, 1) := by kernel_rfl
def bval (zs : List Int) : List Value := zs.map (Value.int .u8)
/-- A slice of bytes zs in memory of this call's own, from block B on. -/
def OwnB (w : World) (B : Nat) (v : Value) (zs : List Int) : Prop := w.ownsRow B 5 1 v zs.length (bval zs) ∧ ∀ z ∈ zs, 0 ≤ z ∧ z ≤ 255
theorem bval_get (zs : List Int) (j : Nat) (h : j < zs.length) : (bval zs)[j]? = some (.int .u8 (zs.getD j 0)) := by
  unfold bval; rw [List.getElem?_map, List.getElem?_eq_getElem h, List.getD_eq_getElem?_getD, List.getElem?_eq_getElem h]; rfl
theorem OwnB.arr {w : World} {B : Nat} {v : Value} {zs : List Int} (h : OwnB w B v zs) : ∃ a cap, v = .slice a zs.length cap ∧ Arr w a zs ∧ zs.length ≤ cap := by
  rcases h.1.2 with ⟨hv, hn⟩ | ⟨g, cap, cur, hv, hB, hg, hnc, hcm, hcs, htake⟩
  · have : zs = [] := List.length_eq_zero_iff.1 hn
    subst this
    exact ⟨none, 0, hv, ⟨by simp, fun j hj => by simp at hj⟩, Nat.le_refl _⟩
  · refine ⟨some ⟨g, 0, none⟩, cap, hv, ⟨h.2, fun j hj => ⟨g, 0, rfl, ?_, ?_⟩⟩, hnc⟩
    · by_cases hlt : g < w.heap.size
      · exact hlt
      · rw [Array.getElem?_eq_none (by omega)] at hg; cases hg
    · have hc := (hv ▸ h.1 : w.ownsRow B 5 1 (.slice (some ⟨g, 0, none⟩) zs.length cap) zs.length (bval zs)).cellAt j (by omega)
      rw [Nat.zero_add, hc, bval_get zs j hj]
theorem oneCells (zs : List Int) : ∀ u ∈ bval zs, u.oneCell' = true := by
  intro u hu
  unfold bval at hu
  obtain ⟨z, _, rfl⟩ := List.mem_map.1 hu
  rfl
theorem OwnB.app {w : World} {B : Nat} {v : Value} {xs ys : List Int} {n : Nat} (h : w.ownsRow B 5 1 v n (bval xs ++ bval ys)) (hn : n = xs.length + ys.length) (hx : ∀ z ∈ xs, 0 ≤ z ∧ z ≤ 255) (hy : ∀ z ∈ ys, 0 ≤ z ∧ z ≤ 255) : OwnB w B v (xs ++ ys) := by
  refine ⟨?_, fun z hz => ?_⟩
  · have e : bval (xs ++ ys) = bval xs ++ bval ys := by unfold bval; rw [List.map_append]
    rw [e, List.length_append, ← hn]; exact h
  · rcases List.mem_append.1 hz with h | h
    · exact hx z h
    · exact hy z h
theorem news_arr {w : World} {b off : Nat} {zs : List Int} (h : Arr w (some ⟨b, off, none⟩) zs) : ∀ j u, (bval zs)[j]? = some u → w.cell? ((⟨b, off, none⟩ : Addr).add j) = some u := by
  intro j u hu
  have hj : j < zs.length := by
    have := (List.getElem?_eq_some_iff.1 hu).1
    simpa [bval] using this
  obtain ⟨b', off', e, _, hc⟩ := h.2 j hj
  simp only [Option.some.injEq, Addr.mk.injEq, and_true] at e
  obtain ⟨rfl, rfl⟩ := e
  rw [bval_get zs j hj] at hu
  rw [Addr.add_lit, hc]; exact hu
theorem cell_one (w : World) (z : Int) (t : Nat) : ∀ j u, (bval [z])[j]? = some u → (w.alloc (.cells #[.int .u8 z] t)).cell? ((⟨w.heap.size, 0, none⟩ : Addr).add j) = some u := by
  intro j u hu
  match j with
  | 0 =>
    simp [bval] at hu
    subst hu
    rw [Addr.add_lit]
    exact cell_of_row _ w.heap.size 0 _ t (0, 0) (heap_alloc_new w _)
  | k + 1 => simp [bval] at hu
theorem OwnB.form {w : World} {B : Nat} {v : Value} {zs : List Int} (h : OwnB w B v zs) (hp : 0 < zs.length) : ∃ g cap, v = .slice (some ⟨g, 0, none⟩) zs.length cap ∧ B ≤ g ∧ g < w.heap.size := by
  rcases h.1.2 with ⟨_, hn⟩ | ⟨g, cap, cur, hv, hB, hg, _⟩
  · omega
  · refine ⟨g, cap, hv, hB, ?_⟩
    by_cases hlt : g < w.heap.size
    · exact hlt
    · rw [Array.getElem?_eq_none (by omega)] at hg; cases hg

/-- Bytes as a text. -/
def strB (zs : List Int) : ByteArray := bs (zs.map (fun z => UInt8.ofNat z.toNat))
theorem byte_back {z : Int} (h0 : 0 ≤ z) (h1 : z ≤ 255) : ((UInt8.ofNat z.toNat).toNat : Int) = z := by rw [UInt8.toNat_ofNat']; omega
theorem conv_str (a : Option Addr) (n cap : Nat) (zs : List Int) (w : World) (hn : zs.length = n) (h : Arr w a zs) : (convert 51 9 (.slice a n cap)).run Try.prog w = .ok (.string (strB zs)) w := by
  cases a with
  | none =>
    have h0 : zs = [] := by
      cases zs with
      | nil => rfl
      | cons z zs => obtain ⟨b, off, e, _⟩ := h.2 0 (by simp); cases e
    subst h0
    exact run_convert_bytes_nil (P := Try.prog) w 51 5 Try.underlying51 Try.underlying5 n cap 9 Try.underlying9
  | some p =>
    have hl : (zs.map (fun z => UInt8.ofNat z.toNat)).length = n := by rw [List.length_map, hn]
    have hh := run_convert_bytes_back (P := Try.prog) w 51 9 5 p cap (zs.map (fun z => UInt8.ofNat z.toNat)) Try.underlying51 Try.underlying5 Try.underlying9 (fun j hj => by
      rw [List.length_map] at hj
      obtain ⟨b, off, e, _, hc⟩ := h.2 j hj
      cases e
      rw [Addr.add_lit, hc, List.getElem_map, List.getD_eq_getElem?_getD, List.getElem?_eq_getElem hj]
      have hb := h.1 zs[j] (List.getElem_mem hj)
      rw [byte_back hb.1 hb.2]; rfl)
    rw [hl] at hh
    exact hh
theorem strB_inj {xs ys : List Int} (hx : ∀ z ∈ xs, 0 ≤ z ∧ z ≤ 255) (hy : ∀ z ∈ ys, 0 ≤ z ∧ z ≤ 255) (h : strB xs = strB ys) : xs = ys := by
  have key : ∀ zs : List Int, (∀ z ∈ zs, 0 ≤ z ∧ z ≤ 255) → (zs.map (fun z => UInt8.ofNat z.toNat)).map (fun b => (b.toNat : Int)) = zs := by
    intro zs hz
    rw [List.map_map]
    conv => rhs; rw [← List.map_id zs]
    apply List.map_congr_left
    intro z hzm
    exact byte_back (hz z hzm).1 (hz z hzm).2
  have h2 : (xs.map (fun z => UInt8.ofNat z.toNat)) = (ys.map (fun z => UInt8.ofNat z.toNat)) := by
    unfold strB at h
    rw [← bs_toList (xs.map _), ← bs_toList (ys.map _), h]
  rw [← key xs hx, ← key ys hy, h2]
abbrev b2i (cur : List UInt8) : List Int := cur.map (fun c => (c.toNat : Int))
theorem b2i_ok (cur : List UInt8) : ∀ z ∈ b2i cur, 0 ≤ z ∧ z ≤ 255 := by
  intro z hz
  obtain ⟨c, _, rfl⟩ := List.mem_map.1 hz
  have := c.toNat_lt
  omega
theorem strB_b2i (cur : List UInt8) : strB (b2i cur) = bs cur := by
  unfold strB
  congr 1
  rw [List.map_map]
  conv => rhs; rw [← List.map_id cur]
  apply List.map_congr_left
  intro c _
  apply UInt8.toNat_inj.1
  simp
/-- A line's words. -/
def lineW (q : List UInt8) : List (List UInt8) := fieldsB (upTo 35 q) []
theorem lw_end {q : List UInt8} {k : Nat} (h : ¬ k < q.length) (cur : List UInt8) : fieldsB (upTo 35 (q.drop k)) cur = if cur.isEmpty then [] else [cur] := by
  rw [List.drop_eq_nil_of_le (by omega)]
  rfl
theorem lw_hash {q : List UInt8} {k : Nat} (h : k < q.length) (hc : q[k] = 35) (cur : List UInt8) : fieldsB (upTo 35 (q.drop k)) cur = if cur.isEmpty then [] else [cur] := by
  rw [List.drop_eq_getElem_cons h, hc]
  rfl
theorem lw_up {q : List UInt8} {k : Nat} (h : k < q.length) (hc : q[k] ≠ 35) : upTo 35 (q.drop k) = q[k] :: upTo 35 (q.drop (k + 1)) := by
  rw [List.drop_eq_getElem_cons h]
  unfold upTo
  rw [List.takeWhile_cons, if_pos (by simpa using hc)]
theorem lw_blank {q : List UInt8} {k : Nat} (h : k < q.length) (hc : q[k] = 32 ∨ q[k] = 9) (cur : List UInt8) : fieldsB (upTo 35 (q.drop k)) cur = (if cur.isEmpty then [] else [cur]) ++ fieldsB (upTo 35 (q.drop (k + 1))) [] := by
  rw [lw_up h (by rcases hc with e | e <;> rw [e] <;> decide)]
  have hb : blB q[k] = true := by unfold blB; rcases hc with e | e <;> rw [e] <;> rfl
  show (if blB q[k] = true then _ else _) = _
  rw [if_pos hb]
  cases cur with
  | nil => rfl
  | cons a b => rfl
theorem lw_sign {q : List UInt8} {k : Nat} (h : k < q.length) (h1 : q[k] ≠ 32) (h2 : q[k] ≠ 9) (h3 : q[k] ≠ 35) (cur : List UInt8) : fieldsB (upTo 35 (q.drop k)) cur = fieldsB (upTo 35 (q.drop (k + 1))) (cur ++ [q[k]]) := by
  rw [lw_up h h3]
  have hb : blB q[k] = false := by unfold blB; rw [beq_eq_false_iff_ne.2 h1, beq_eq_false_iff_ne.2 h2]; rfl
  show (if blB q[k] = true then _ else _) = _
  rw [if_neg (by rw [hb]; decide)]
theorem OwnB.keepTy {w w' : World} {B C e n K : Nat} {v u : Value} {zs : List Int} {xs : List Value} (h : OwnB w B v zs) (ho : w.ownsRow C e K u n xs) (he : e ≠ 5) (hg : w.grownBy w' u.ownBlock) : OwnB w' B v zs :=
  ⟨row_kept h.1 (fun b eb => hg.block b (row_lt h.1 eb).2 (fun e2 => own_apart2 ho h.1 he e2.symm eb)), h.2⟩
theorem OwnS.keepTy {w w' : World} {B C e n K : Nat} {v u : Value} {ps : List (List UInt8)} {xs : List Value} (h : OwnS w B v ps) (ho : w.ownsRow C e K u n xs) (he : e ≠ 9) (hg : w.grownBy w' u.ownBlock) : OwnS w' B v ps :=
  row_kept h (fun b eb => hg.block b (row_lt h eb).2 (fun e2 => own_apart2 ho h he e2.symm eb))
theorem below_row {w w' w0 : World} {B e n K C : Nat} {u : Value} {xs : List Value} (h : Below C w0 w) (ho : w.ownsRow B e K u n xs) (hC : C ≤ B) (hs : C ≤ w.heap.size) (hg : w.grownBy w' u.ownBlock) : Below C w0 w' :=
  h.grown hg hs (fun k e => Nat.le_trans hC (row_lt ho e).1)
theorem OwnS.cellS {w : World} {B : Nat} {v : Value} {ps : List (List UInt8)} (h : OwnS w B v ps) (h0 : 0 < ps.length) : ∃ g cap, v = .slice (some ⟨g, 0, none⟩) ps.length cap ∧ B ≤ g ∧ g < w.heap.size ∧ ps.length ≤ cap ∧ ∀ (j : Nat) q, ps[j]? = some q → w.cell? ⟨g, j, none⟩ = some (.string (bs q)) := by
  rcases h.2 with ⟨_, hn⟩ | ⟨g, cap, cur, hv, hB, hg, hnc, hcm, hcs, htake⟩
  · omega
  · refine ⟨g, cap, hv, hB, (Array.getElem?_eq_some_iff.1 hg).1, hnc, fun j q hq => ?_⟩
    have hj : j < ps.length := (List.getElem?_eq_some_iff.1 hq).1
    have h' : w.ownsRow B 9 1 (.slice (some ⟨g, 0, none⟩) ps.length cap) ps.length (sval ps) := hv ▸ h
    have hc := h'.cellAt j (by omega)
    rw [hc]
    unfold sval
    rw [List.getElem?_map, hq]
    rfl
theorem splitL_pos (c : UInt8) : ∀ l : List UInt8, 0 < (splitL c l).length
  | [] => by simp [splitL]
  | x :: xs => by unfold splitL; split <;> simp
theorem splitL_len (c : UInt8) : ∀ l : List UInt8, (splitL c l).length ≤ l.length + 1
  | [] => by simp [splitL]
  | x :: xs => by
    have h := splitL_len c xs
    have h0 := splitL_pos c xs
    unfold splitL
    split
    · simp; omega
    · simp; omega
theorem splitL_mem (c : UInt8) : ∀ (l q : List UInt8), q ∈ splitL c l → q.length ≤ l.length
  | [], q, h => by simp [splitL] at h; simp [h]
  | x :: xs, q, h => by
    have h0 := splitL_pos c xs
    unfold splitL at h
    split at h
    · rcases List.mem_cons.1 h with rfl | h
      · simp
      · have := splitL_mem c xs q h; simp; omega
    · rcases List.mem_cons.1 h with rfl | h
      · cases e : splitL c xs with
        | nil => rw [e] at h0; simp at h0
        | cons a b =>
          have := splitL_mem c xs a (by rw [e]; simp)
          simp; omega
      · have := splitL_mem c xs q (List.mem_of_mem_tail h); simp; omega
theorem Try.infoSS : (Try.prog.info? 35).map (fun i => (i.zero, i.size, i.bytes)) = some (some (.slice none 0 0), 1, 24) := by kernel_rfl
theorem OwnS.sl {w : World} {B : Nat} {v : Value} {ps : List (List UInt8)} (h : OwnS w B v ps) : ∃ a m c, v = .slice a m c ∧ m = ps.length := by
  rcases h.2 with ⟨rfl, hn⟩ | ⟨g, cap, cur, rfl, _⟩
  · exact ⟨none, 0, 0, rfl, by omega⟩
  · exact ⟨_, _, _, rfl, rfl⟩
theorem OwnB.sl {w : World} {B : Nat} {v : Value} {cur : List UInt8} (h : OwnB w B v (b2i cur)) : ∃ a m c, v = .slice a m c ∧ m = cur.length ∧ Arr w a (b2i cur) := by
  obtain ⟨a, c, rfl, ha, _⟩ := h.arr
  exact ⟨a, _, c, rfl, by simp, ha⟩
theorem cell_val (w : World) (v : Value) (t : Nat) : ∀ (j : Nat) u, [v][j]? = some u → (w.alloc (.cells #[v] t)).cell? ((⟨w.heap.size, 0, none⟩ : Addr).add j) = some u := by
  intro j u hu
  match j with
  | 0 =>
    simp at hu
    subst hu
    rw [Addr.add_lit]
    exact cell_of_row _ w.heap.size 0 _ t (0, 0) (heap_alloc_new w _)
  | k + 1 => simp at hu
theorem OwnS.base {w : World} {B C : Nat} {v : Value} {ps : List (List UInt8)} (h : OwnS w B v ps) (hC : C ≤ B) : OwnS w C v ps := by
  refine ⟨h.1, ?_⟩
  rcases h.2 with h2 | ⟨g, cap, cur, hv, hB, h3⟩
  · exact .inl h2
  · exact .inr ⟨g, cap, cur, hv, by omega, h3⟩
theorem OwnB.nextb {w w' : World} {B : Nat} {v : Value} {zs : List Int} (h : OwnB w B v zs) (hb : Below w.heap.size w w') : OwnB w' B v zs := ⟨row_kept h.1 (fun b e => hb.block b (row_lt h.1 e).2), h.2⟩
theorem take_map_succ {Ls : List (List UInt8)} {i : Nat} {q : List UInt8} (h : Ls[i]? = some q) : (Ls.map lineW).take (i + 1) = (Ls.map lineW).take i ++ [lineW q] := by
  obtain ⟨hi, e⟩ := List.getElem?_eq_some_iff.1 h
  rw [List.take_succ_eq_append_getElem (by rw [List.length_map]; exact hi), List.getElem_map, e]
theorem ownB_empty (w : World) (B : Nat) (hB : B ≤ w.heap.size) : OwnB (w.alloc (.cells #[] 5)) B (.slice (some ⟨w.heap.size, 0, none⟩) 0 0) (b2i []) :=
  ⟨World.ownsRow_lit (base := B) (e := 5) (size := 1) w #[] 0 hB (by decide) rfl, by simp⟩
theorem ownS_empty (w : World) (B : Nat) (hB : B ≤ w.heap.size) : OwnS (w.alloc (.cells #[] 9)) B (.slice (some ⟨w.heap.size, 0, none⟩) 0 0) [] :=
  World.ownsRow_lit (base := B) (e := 9) (size := 1) w #[] 0 hB (by decide) rfl
set_option maxHeartbeats 16000000 in
theorem l08Lines_walk (l : List UInt8) (w : World) (hl : l.length ≤ 20000) :
    Calls Try.prog 15 #[.string (bs l)] w fun e w' => ∃ v, e = .returned v ∧ WRow w' w.heap.size v ((splitL 10 l).map lineW) ∧ Below w.heap.size w w' := by
  obtain ⟨iS, hi, hz0, hz1, hz2⟩ := info_parts Try.infoS
  have HS := hide hi
  have HS0 := hide hz0
  have HS1 := hide hz1
  have HS2 := hide hz2
  clear hi hz0 hz1 hz2
  obtain ⟨iB, hi, hz0, hz1, hz2⟩ := info_parts Try.infoB
  have HI := hide hi
  have HI0 := hide hz0
  have HI1 := hide hz1
  have HI2 := hide hz2
  clear hi hz0 hz1 hz2
  obtain ⟨iT, hi, hz0, hz1, hz2⟩ := info_parts Try.infoSS
  have HT := hide hi
  have HT0 := hide hz0
  have HT1 := hide hz1
  have HT2 := hide hz2
  clear hi hz0 hz1 hz2
  have HC := hide (fun W => l02Cut_walk l 10 W (by omega))
  have HNM : Hid (∀ q ∈ splitL 10 l, q.length ≤ 20000) := hide (fun q hq => Nat.le_trans (splitL_mem 10 l q hq) hl)
  have HN1 : Hid ((splitL 10 l).length ≤ 20001) := hide (by have := splitL_len 10 l; omega)
  have HN0 := hide (splitL_pos 10 l)
  generalize splitL 10 l = Ls at *
  have HR0 : Hid (WRow (w.alloc (.cells #[] 35)) w.heap.size (.slice (some ⟨w.heap.size, 0, none⟩) 0 0) ((Ls.map lineW).take 0)) := hide ⟨[], World.ownsRow_lit (base := w.heap.size) (e := 35) (size := 1) w #[] 0 (Nat.le_refl _) (by decide) rfl, by simp, fun i q hq => by simp at hq⟩
  have HB0 : Hid (Below w.heap.size w (w.alloc (.cells #[] 35))) := hide ((Below.refl _ _).alloc (Nat.le_refl _) _)
  go_enter Try.func15, Try.ntmps15
  go_wp2_with fail
  generalize w.alloc (.cells #[] 35) = W0 at *
  refine (HC.out W0).mono ?_
  rintro e W1 ⟨vl, rfl, hol, hb1⟩
  obtain ⟨gl, capl, hvl, hgB, hgl, hcl, hcells⟩ := hol.cellS HN0.out
  obtain ⟨N, hN, HNL⟩ : ∃ N, Ls.length = N ∧ Hid (Ls.length = N) := ⟨_, rfl, hide rfl⟩
  rw [hN] at hvl
  subst hvl
  have HLI0 : Hid (OwnS W1 w.heap.size (.slice (some ⟨gl, 0, none⟩) N capl) Ls) := hide (hol.base HB0.out.size)
  have HR1 := hide (HR0.out.next hb1)
  have HB1 := hide (HB0.out.trans (hb1.mono HB0.out.size))
  have hN20 : N ≤ 20001 := by have := HN1.out; omega
  clear hol hb1 hgB hgl hcl hcells hN HR0 HB0 HC
  go_wp2_with fail
  go_loopw [3, 5] (fun o t w2 => ∃ i : Nat, i ≤ N ∧ t = .int .i64 i ∧ Hid (WRow w2 w.heap.size o ((Ls.map lineW).take i)) ∧ Hid (OwnS w2 w.heap.size (.slice (some ⟨gl, 0, none⟩) N capl) Ls) ∧ Hid (Below w.heap.size w w2)) (fun _ t _ => N - (intOf t).toNat)
  case atStart => exact ⟨0, Nat.zero_le _, rfl, HR1, HLI0, HB1⟩
  case round =>
    obtain ⟨i, hi, rfl, HROW, HLI, HBW⟩ := hrel
    clear HR1 HLI0 HB1
    generalize hwi : wr = wi at *
    clear hwi
    by_cases hlt : i < N
    · obtain ⟨q, hq⟩ : ∃ q, Ls[i]? = some q := ⟨_, List.getElem?_eq_getElem (by have := HNL.out; omega)⟩
      have HTK := hide (take_map_succ hq)
      have HQL : Hid (q.length ≤ 20000) := hide (HNM.out q (List.mem_of_getElem? hq))
      obtain ⟨gl', capl', hvl, _, hgl, _, hcells⟩ := HLI.out.cellS (by have := HNL.out; omega)
      have hglb : gl < wi.heap.size := by cases hvl; exact hgl
      have hcl : wi.cell? ⟨gl, i, none⟩ = some (.string (bs q)) := by cases hvl; exact hcells i q hq
      clear hvl hgl hcells hq
      have HGLB := hide hglb
      have HCL := hide hcl
      clear hglb hcl
      have hsz := bs_size q
      have hq20 : q.length ≤ 20000 := HQL.out
      have HG : Hid (∀ i (h : i < q.length) (h2 : i < (bs q).size), (bs q)[i]'h2 = q[i]'h) := hide (fun i h h2 => bs_get h)
      have HO1 := hide ((ownS_empty wi wi.heap.size (Nat.le_refl _)).nexts ((Below.refl _ _).alloc (Nat.le_refl _) (.cells #[] 5)))
      have HN2 : Hid (OwnB ((wi.alloc (.cells #[] 9)).alloc (.cells #[] 5)) wi.heap.size (.slice (some ⟨wi.heap.size + 1, 0, none⟩) 0 0) (b2i [])) := hide (by have h := ownB_empty (wi.alloc (.cells #[] 9)) wi.heap.size (by rw [World.size_alloc]; omega); rw [World.size_alloc] at h; exact h)
      have HB2 : Hid (Below wi.heap.size wi ((wi.alloc (.cells #[] 9)).alloc (.cells #[] 5))) := hide (((Below.refl _ _).alloc (Nat.le_refl _) _).alloc (by rw [World.size_alloc]; omega) _)
      generalize hs : bs q = s at *
      go_wp2_with fail
      generalize (wi.alloc (.cells #[] 9)).alloc (.cells #[] 5) = W2 at *
      go_loopw [6, 7, 8] (fun a6 a7 t w2 => ∃ (k : Nat) (ws : List (List UInt8)) (cur : List UInt8), k ≤ q.length + 1 ∧ t = .int .i64 k ∧ Hid (OwnS w2 wi.heap.size a6 ws) ∧ Hid (OwnB w2 wi.heap.size a7 (b2i cur)) ∧ Hid (Below wi.heap.size wi w2) ∧ Hid (lineW q = ws ++ fieldsB (upTo 35 (q.drop k)) cur) ∧ Hid (ws.length ≤ k) ∧ Hid (cur.length ≤ k) ∧ Hid (k = q.length + 1 → cur = [])) (fun _ _ t _ => q.length + 1 - (intOf t).toNat)
      case atStart => exact ⟨0, [], [], Nat.zero_le _, rfl, HO1, HN2, HB2, hide rfl, hide (Nat.le_refl _), hide (Nat.le_refl _), hide (fun e => by omega)⟩
      case round =>
        obtain ⟨k, ws, cur, hk, rfl, HO, HN, HB, HEQ, HWL, HCUL, HEND⟩ := hrel
        clear HO1 HN2 HB2
        generalize hwk : wr = wk at *
        clear hwk
        have hcell : wk.cell? ⟨gl, i, none⟩ = some (.string s) := (HB.out.cell (p := ⟨gl, i, none⟩) HGLB.out).trans HCL.out
        obtain ⟨a7, m7, c7, rfl, hm7, harr7⟩ := HN.out.sl
        have hk20 : k ≤ 20001 := by omega
        by_cases hkl : k < q.length
        · have hs2 : k < s.size := by omega
          obtain ⟨x, hx, HX⟩ : ∃ x : Int, ((s[k]'hs2).toNat : Int) = x ∧ Hid (x = (q[k].toNat : Int)) := ⟨_, rfl, hide (by rw [HG.out k hkl hs2])⟩
          have hxb : 0 ≤ x ∧ x ≤ 255 := by rw [HX.out]; have := q[k].toNat_lt; omega
          by_cases e35 : x = 35
          · have h32 : (x != 32) = true := by rw [e35]; rfl
            have h9 : (x != 9) = true := by rw [e35]; rfl
            have h35 : (x != 35) = false := by simpa using e35
            have h35e : (x == 35) = true := by simpa using e35
            have HQC : Hid (q[k] = 35) := hide (UInt8.toNat_inj.1 (show q[k].toNat = (35 : UInt8).toNat from by have h := HX.out; rw [e35] at h; have h2 : (35 : UInt8).toNat = 35 := rfl; omega))
            clear e35
            by_cases hcur : cur = []
            · subst hcur
              have hm0 : m7 = 0 := hm7
              subst hm0
              obtain ⟨a6, m6, c6, hf6, hm6⟩ := HO.out.sl
              subst hf6
              clear hm6
              have HEW : Hid (lineW q = ws) := hide (by rw [HEQ.out, lw_hash hkl HQC.out []]; simp)
              clear hm7 harr7
              have HOL := hide (HO.out.nexts ((Below.refl _ _).alloc (Nat.le_refl _) (.cells #[(.slice a6 m6 c6)] 35)))
              have HBL := hide (HB.out.alloc HB.out.size (.cells #[(.slice a6 m6 c6)] 35))
              have HRK := hide (HROW.out.next HBL.out)
              have HLK := hide (HLI.out.nexts HBL.out)
              obtain ⟨vs, hv1, hv2, hv3⟩ := HRK.out
              have HV1 := hide hv1
              have HV2 := hide hv2
              have HV3 := hide hv3
              have HMX : Hid (((Ls.map lineW).take i).length = i) := hide (by rw [List.length_take, List.length_map]; have := HNL.out; omega)
              clear hv1 hv2 hv3 HRK
              go_wp2_with (first | (at_builtin; refine wpList_append_own _ rfl _ _ 33 rfl w.heap.size 35 iT _ 1 24 Try.underlying33 HT.out HT0.out HT1.out HT2.out rfl (by decide) u3 _ _ rfl HV1.out ⟨wk.heap.size, 0, none⟩ 1 1 [(.slice a6 m6 c6)] rfl rfl (cell_val _ _ _) (by intro x hx; rw [List.mem_singleton.1 hx]; rfl) (by rw [HMX.out]; unfold maxLen; omega) (by rw [HMX.out]; omega) (by have := HBW.out.size; have := HBL.out.size; omega) ?_; intro v3 w3 hown hgrow hnil; have HR3 : Hid (WRow w3 w.heap.size v3 ((Ls.map lineW).take (i + 1))) := hide (by rw [HTK.out, HEW.out]; exact WRow.app HV1.out HV2.out HV3.out (HOL.out.base HBW.out.size) hgrow hown); have HBW3 : Hid (Below w.heap.size w w3) := hide (below_row (HBW.out.trans (HBL.out.mono HBW.out.size)) HV1.out (Nat.le_refl _) (by have := HBW.out.size; have := HBL.out.size; omega) hgrow); have HLI3 : Hid (OwnS w3 w.heap.size (.slice (some ⟨gl, 0, none⟩) N capl) Ls) := hide (HLK.out.keepTy HV1.out (by decide) hgrow); clear hown hgrow hnil))
              exact ⟨⟨i + 1, by omega, by go_num, HR3, HLI3, HBW3⟩, by simp [intOf]; omega⟩
            · have HEW : Hid (lineW q = ws ++ [cur]) := hide (by rw [HEQ.out, lw_hash hkl HQC.out cur, if_neg (by simpa using hcur)])
              have hconv := conv_str a7 m7 c7 (b2i cur) wk (by rw [hm7]; simp) harr7
              rw [strB_b2i] at hconv
              have HOA := hide (HO.out.nexts ((Below.refl _ _).alloc (Nat.le_refl _) (.cells #[.string (bs cur)] 9)))
              have HBA := hide (HB.out.alloc HB.out.size (.cells #[.string (bs cur)] 9))
              have hm7p : (0 : Int) < (m7 : Int) := by have : cur.length ≠ 0 := fun e => hcur (List.length_eq_zero_iff.1 e); omega
              clear harr7 hm7
              go_wp2_with (first
                | (at_builtin; refine wpList_append_own _ rfl _ _ 35 rfl wi.heap.size 9 iS _ 1 16 Try.underlying35 HS.out HS0.out HS1.out HS2.out rfl (by decide) u6 _ _ rfl HOA.out ⟨wk.heap.size, 0, none⟩ 1 1 (sval [cur]) rfl rfl (cell_oneS _ _ _ _ rfl) (oneCellsS _) (by have := HWL.out; unfold maxLen; omega) (by have := HWL.out; omega) (by have := HBA.out.size; omega) ?_; intro v6 w6 hown hgrow hnil; have HO6 := hide (OwnS.app hown rfl); have HB6 := hide (below_row HBA.out HOA.out (Nat.le_refl _) HBA.out.size hgrow); clear hown hgrow hnil; have HN6 := hide (ownB_empty w6 wi.heap.size HB6.out.size); have HO6b := hide (HO6.out.nexts ((Below.refl _ _).alloc (Nat.le_refl _) (.cells #[] 5))); have HB6b := hide (HB6.out.alloc HB6.out.size (.cells #[] 5)); have hc6 : w6.cell? ⟨gl, i, none⟩ = some (.string s) := (HB6.out.cell (p := ⟨gl, i, none⟩) HGLB.out).trans HCL.out; have hc6b : (w6.alloc (.cells #[] 5)).cell? ⟨gl, i, none⟩ = some (.string s) := (HB6b.out.cell (p := ⟨gl, i, none⟩) HGLB.out).trans HCL.out; obtain ⟨a6, m6, c6, hf6, hm6⟩ := HO6b.out.sl; subst hf6; clear hm6; have HOL := hide (HO6b.out.nexts ((Below.refl _ _).alloc (Nat.le_refl _) (.cells #[(.slice a6 m6 c6)] 35))); have HBL := hide (HB6b.out.alloc HB6b.out.size (.cells #[(.slice a6 m6 c6)] 35)); have HRK := hide (HROW.out.next HBL.out); have HLK := hide (HLI.out.nexts HBL.out); obtain ⟨vs, hv1, hv2, hv3⟩ := HRK.out; have HV1 := hide hv1; have HV2 := hide hv2; have HV3 := hide hv3; have HMX : Hid (((Ls.map lineW).take i).length = i) := hide (by rw [List.length_take, List.length_map]; have := HNL.out; omega); clear hv1 hv2 hv3 HRK)
                | (at_builtin; refine wpList_append_own _ rfl _ _ 33 rfl w.heap.size 35 iT _ 1 24 Try.underlying33 HT.out HT0.out HT1.out HT2.out rfl (by decide) u3 _ _ rfl HV1.out ⟨w6.heap.size + 1, 0, none⟩ 1 1 [(.slice a6 m6 c6)] rfl rfl (by have h := cell_val (w6.alloc (.cells #[] 5)) (.slice a6 m6 c6) 35; rw [World.size_alloc] at h; exact h) (by intro x hx; rw [List.mem_singleton.1 hx]; rfl) (by rw [HMX.out]; unfold maxLen; omega) (by rw [HMX.out]; omega) (by have := HBW.out.size; have := HBL.out.size; omega) ?_; intro v3 w3 hown hgrow hnil; have HR3 : Hid (WRow w3 w.heap.size v3 ((Ls.map lineW).take (i + 1))) := hide (by rw [HTK.out, HEW.out]; exact WRow.app HV1.out HV2.out HV3.out (HOL.out.base HBW.out.size) hgrow hown); have HBW3 : Hid (Below w.heap.size w w3) := hide (below_row (HBW.out.trans (HBL.out.mono HBW.out.size)) HV1.out (Nat.le_refl _) (by have := HBW.out.size; have := HBL.out.size; omega) hgrow); have HLI3 : Hid (OwnS w3 w.heap.size (.slice (some ⟨gl, 0, none⟩) N capl) Ls) := hide (HLK.out.keepTy HV1.out (by decide) hgrow); clear hown hgrow hnil))
              exact ⟨⟨i + 1, by omega, by go_num, HR3, HLI3, HBW3⟩, by simp [intOf]; omega⟩
          · have n35 : ¬ x = 35 := e35
            by_cases e32 : x = 32
            · have h32 : (x != 32) = false := by simpa using e32
              have h35e : (x == 35) = false := by rw [e32]; rfl
              have HQC : Hid (q[k] = 32) := hide (UInt8.toNat_inj.1 (show q[k].toNat = (32 : UInt8).toNat from by have h := HX.out; rw [e32] at h; have h2 : (32 : UInt8).toNat = 32 := rfl; omega))
              clear e32
              by_cases hcur : cur = []
              · subst hcur
                have hm0 : m7 = 0 := hm7
                subst hm0
                have HX1 : Hid (lineW q = ws ++ fieldsB (upTo 35 (q.drop (k + 1))) []) := hide (by rw [HEQ.out, lw_blank hkl (.inl HQC.out)]; rfl)
                clear hm7 harr7
                go_wp2_with fail
                exact ⟨⟨k + 1, ws, [], by omega, by go_num, HO, HN, HB, HX1, hide (by have := HWL.out; omega), hide (Nat.zero_le _), hide (fun _ => rfl)⟩, by simp [intOf]; omega⟩
              · have HX1 : Hid (lineW q = (ws ++ [cur]) ++ fieldsB (upTo 35 (q.drop (k + 1))) []) := hide (by rw [HEQ.out, lw_blank hkl (.inl HQC.out), if_neg (by simpa using hcur), List.append_assoc])
                have hconv := conv_str a7 m7 c7 (b2i cur) wk (by rw [hm7]; simp) harr7
                rw [strB_b2i] at hconv
                have HOA := hide (HO.out.nexts ((Below.refl _ _).alloc (Nat.le_refl _) (.cells #[.string (bs cur)] 9)))
                have HBA := hide (HB.out.alloc HB.out.size (.cells #[.string (bs cur)] 9))
                have hm7p : (0 : Int) < (m7 : Int) := by have : cur.length ≠ 0 := fun e => hcur (List.length_eq_zero_iff.1 e); omega
                clear harr7 hm7
                go_wp2_with (first | (at_builtin; refine wpList_append_own _ rfl _ _ 35 rfl wi.heap.size 9 iS _ 1 16 Try.underlying35 HS.out HS0.out HS1.out HS2.out rfl (by decide) u6 _ _ rfl HOA.out ⟨wk.heap.size, 0, none⟩ 1 1 (sval [cur]) rfl rfl (cell_oneS _ _ _ _ rfl) (oneCellsS _) (by have := HWL.out; unfold maxLen; omega) (by have := HWL.out; omega) (by have := HBA.out.size; omega) ?_; intro v6 w6 hown hgrow hnil; have HO6 := hide (OwnS.app hown rfl); have HB6 := hide (below_row HBA.out HOA.out (Nat.le_refl _) HBA.out.size hgrow); clear hown hgrow hnil; have HN6 := hide (ownB_empty w6 wi.heap.size HB6.out.size); have HO6b := hide (HO6.out.nexts ((Below.refl _ _).alloc (Nat.le_refl _) (.cells #[] 5))); have HB6b := hide (HB6.out.alloc HB6.out.size (.cells #[] 5)); have hc6 : w6.cell? ⟨gl, i, none⟩ = some (.string s) := (HB6.out.cell (p := ⟨gl, i, none⟩) HGLB.out).trans HCL.out; have hc6b : (w6.alloc (.cells #[] 5)).cell? ⟨gl, i, none⟩ = some (.string s) := (HB6b.out.cell (p := ⟨gl, i, none⟩) HGLB.out).trans HCL.out))
                exact ⟨⟨k + 1, ws ++ [cur], [], by omega, by go_num, HO6b, HN6, HB6b, HX1, hide (by have := HWL.out; simp; omega), hide (Nat.zero_le _), hide (fun _ => rfl)⟩, by simp [intOf]; omega⟩
            · have n32 : ¬ x = 32 := e32
              by_cases e9 : x = 9
              · have h32 : (x != 32) = true := by simpa using n32
                have h9 : (x != 9) = false := by simpa using e9
                have h35e : (x == 35) = false := by rw [e9]; rfl
                have HQC : Hid (q[k] = 9) := hide (UInt8.toNat_inj.1 (show q[k].toNat = (9 : UInt8).toNat from by have h := HX.out; rw [e9] at h; have h2 : (9 : UInt8).toNat = 9 := rfl; omega))
                clear e9
                by_cases hcur : cur = []
                · subst hcur
                  have hm0 : m7 = 0 := hm7
                  subst hm0
                  have HX1 : Hid (lineW q = ws ++ fieldsB (upTo 35 (q.drop (k + 1))) []) := hide (by rw [HEQ.out, lw_blank hkl (.inr HQC.out)]; rfl)
                  clear hm7 harr7
                  go_wp2_with fail
                  exact ⟨⟨k + 1, ws, [], by omega, by go_num, HO, HN, HB, HX1, hide (by have := HWL.out; omega), hide (Nat.zero_le _), hide (fun _ => rfl)⟩, by simp [intOf]; omega⟩
                · have HX1 : Hid (lineW q = (ws ++ [cur]) ++ fieldsB (upTo 35 (q.drop (k + 1))) []) := hide (by rw [HEQ.out, lw_blank hkl (.inr HQC.out), if_neg (by simpa using hcur), List.append_assoc])
                  have hconv := conv_str a7 m7 c7 (b2i cur) wk (by rw [hm7]; simp) harr7
                  rw [strB_b2i] at hconv
                  have HOA := hide (HO.out.nexts ((Below.refl _ _).alloc (Nat.le_refl _) (.cells #[.string (bs cur)] 9)))
                  have HBA := hide (HB.out.alloc HB.out.size (.cells #[.string (bs cur)] 9))
                  have hm7p : (0 : Int) < (m7 : Int) := by have : cur.length ≠ 0 := fun e => hcur (List.length_eq_zero_iff.1 e); omega
                  clear harr7 hm7
                  go_wp2_with (first | (at_builtin; refine wpList_append_own _ rfl _ _ 35 rfl wi.heap.size 9 iS _ 1 16 Try.underlying35 HS.out HS0.out HS1.out HS2.out rfl (by decide) u6 _ _ rfl HOA.out ⟨wk.heap.size, 0, none⟩ 1 1 (sval [cur]) rfl rfl (cell_oneS _ _ _ _ rfl) (oneCellsS _) (by have := HWL.out; unfold maxLen; omega) (by have := HWL.out; omega) (by have := HBA.out.size; omega) ?_; intro v6 w6 hown hgrow hnil; have HO6 := hide (OwnS.app hown rfl); have HB6 := hide (below_row HBA.out HOA.out (Nat.le_refl _) HBA.out.size hgrow); clear hown hgrow hnil; have HN6 := hide (ownB_empty w6 wi.heap.size HB6.out.size); have HO6b := hide (HO6.out.nexts ((Below.refl _ _).alloc (Nat.le_refl _) (.cells #[] 5))); have HB6b := hide (HB6.out.alloc HB6.out.size (.cells #[] 5)); have hc6 : w6.cell? ⟨gl, i, none⟩ = some (.string s) := (HB6.out.cell (p := ⟨gl, i, none⟩) HGLB.out).trans HCL.out; have hc6b : (w6.alloc (.cells #[] 5)).cell? ⟨gl, i, none⟩ = some (.string s) := (HB6b.out.cell (p := ⟨gl, i, none⟩) HGLB.out).trans HCL.out))
                  exact ⟨⟨k + 1, ws ++ [cur], [], by omega, by go_num, HO6b, HN6, HB6b, HX1, hide (by have := HWL.out; simp; omega), hide (Nat.zero_le _), hide (fun _ => rfl)⟩, by simp [intOf]; omega⟩
              · have n9 : ¬ x = 9 := e9
                clear e35 e32 e9
                have HX1 : Hid (lineW q = ws ++ fieldsB (upTo 35 (q.drop (k + 1))) (cur ++ [q[k]])) := hide (by rw [HEQ.out, lw_sign hkl (fun e => n32 (HX.out.symm ▸ by rw [e]; rfl)) (fun e => n9 (HX.out.symm ▸ by rw [e]; rfl)) (fun e => n35 (HX.out.symm ▸ by rw [e]; rfl)) cur])
                have h32 : (x != 32) = true := by simpa using n32
                have h9 : (x != 9) = true := by simpa using n9
                have h35 : (x != 35) = true := by simpa using n35
                have HNA := hide (HN.out.nextb ((Below.refl _ _).alloc (Nat.le_refl _) (.cells #[.int .u8 x] 5)))
                have HOA := hide (HO.out.nexts ((Below.refl _ _).alloc (Nat.le_refl _) (.cells #[.int .u8 x] 5)))
                have HBA := hide (HB.out.alloc HB.out.size (.cells #[.int .u8 x] 5))
                have HXL : Hid (b2i (cur ++ [q[k]]) = b2i cur ++ [x]) := hide (by rw [HX.out]; simp)
                clear n32 n9 n35 harr7
                go_wp2_with (first | (at_builtin; refine wpList_append_own _ rfl _ _ 51 rfl wi.heap.size 5 iB _ 1 1 Try.underlying51 HI.out HI0.out HI1.out HI2.out rfl (by decide) (.slice a7 m7 c7) _ _ rfl HNA.out.1 ⟨wk.heap.size, 0, none⟩ 1 1 (bval [x]) rfl rfl (cell_one _ _ _) (oneCells _) (by have := HCUL.out; rw [List.length_map]; unfold maxLen; omega) (by have := HCUL.out; rw [List.length_map]; omega) (by have := HBA.out.size; omega) ?_; intro v7 w7 hown hgrow hnil; have HN7 : Hid (OwnB w7 wi.heap.size v7 (b2i (cur ++ [q[k]]))) := hide (by rw [HXL.out]; exact OwnB.app hown rfl HNA.out.2 (by intro z hz; rw [List.mem_singleton.1 hz]; exact hxb)); have HO7 := hide (HOA.out.keepTy HNA.out.1 (by decide) hgrow); have HB7 := hide (below_row HBA.out HNA.out.1 (Nat.le_refl _) HBA.out.size hgrow); clear hown hgrow hnil))
                exact ⟨⟨k + 1, ws, _, by omega, by go_num, HO7, HN7, HB7, HX1, hide (by have := HWL.out; omega), hide (by have := HCUL.out; simp; omega), hide (fun e => by omega)⟩, by simp [intOf]; omega⟩
        · by_cases hke : k = q.length
          · have hke2 : ¬ k < q.length := hkl
            by_cases hcur : cur = []
            · subst hcur
              have hm0 : m7 = 0 := hm7
              subst hm0
              have HX1 : Hid (lineW q = ws ++ fieldsB (upTo 35 (q.drop (k + 1))) []) := hide (by rw [HEQ.out, lw_end hkl [], List.drop_eq_nil_of_le (by omega)]; rfl)
              clear hm7 harr7
              go_wp2_with fail
              exact ⟨⟨k + 1, ws, [], by omega, by go_num, HO, HN, HB, HX1, hide (by have := HWL.out; omega), hide (Nat.zero_le _), hide (fun _ => rfl)⟩, by simp [intOf]; omega⟩
            · have HX1 : Hid (lineW q = (ws ++ [cur]) ++ fieldsB (upTo 35 (q.drop (k + 1))) []) := hide (by rw [HEQ.out, lw_end hkl cur, if_neg (by simpa using hcur), List.drop_eq_nil_of_le (by omega)]; simp [upTo, fieldsB])
              have hconv := conv_str a7 m7 c7 (b2i cur) wk (by rw [hm7]; simp) harr7
              rw [strB_b2i] at hconv
              have HOA := hide (HO.out.nexts ((Below.refl _ _).alloc (Nat.le_refl _) (.cells #[.string (bs cur)] 9)))
              have HBA := hide (HB.out.alloc HB.out.size (.cells #[.string (bs cur)] 9))
              have hm7p : (0 : Int) < (m7 : Int) := by have : cur.length ≠ 0 := fun e => hcur (List.length_eq_zero_iff.1 e); omega
              clear harr7 hm7
              go_wp2_with (first | (at_builtin; refine wpList_append_own _ rfl _ _ 35 rfl wi.heap.size 9 iS _ 1 16 Try.underlying35 HS.out HS0.out HS1.out HS2.out rfl (by decide) u6 _ _ rfl HOA.out ⟨wk.heap.size, 0, none⟩ 1 1 (sval [cur]) rfl rfl (cell_oneS _ _ _ _ rfl) (oneCellsS _) (by have := HWL.out; unfold maxLen; omega) (by have := HWL.out; omega) (by have := HBA.out.size; omega) ?_; intro v6 w6 hown hgrow hnil; have HO6 := hide (OwnS.app hown rfl); have HB6 := hide (below_row HBA.out HOA.out (Nat.le_refl _) HBA.out.size hgrow); clear hown hgrow hnil; have HN6 := hide (ownB_empty w6 wi.heap.size HB6.out.size); have HO6b := hide (HO6.out.nexts ((Below.refl _ _).alloc (Nat.le_refl _) (.cells #[] 5))); have HB6b := hide (HB6.out.alloc HB6.out.size (.cells #[] 5)); have hc6 : w6.cell? ⟨gl, i, none⟩ = some (.string s) := (HB6.out.cell (p := ⟨gl, i, none⟩) HGLB.out).trans HCL.out; have hc6b : (w6.alloc (.cells #[] 5)).cell? ⟨gl, i, none⟩ = some (.string s) := (HB6b.out.cell (p := ⟨gl, i, none⟩) HGLB.out).trans HCL.out))
              exact ⟨⟨k + 1, ws ++ [cur], [], by omega, by go_num, HO6b, HN6, HB6b, HX1, hide (by have := HWL.out; simp; omega), hide (Nat.zero_le _), hide (fun _ => rfl)⟩, by simp [intOf]; omega⟩
          · have hk1 : k = q.length + 1 := by omega
            have hc0 := HEND.out hk1
            subst hc0
            have HEW : Hid (lineW q = ws) := hide (by rw [HEQ.out, lw_end hkl]; simp)
            clear hm7 harr7
            obtain ⟨a6, m6, c6, hf6, hm6⟩ := HO.out.sl
            subst hf6
            clear hm6
            have HOL := hide (HO.out.nexts ((Below.refl _ _).alloc (Nat.le_refl _) (.cells #[(.slice a6 m6 c6)] 35)))
            have HBL := hide (HB.out.alloc HB.out.size (.cells #[(.slice a6 m6 c6)] 35))
            have HRK := hide (HROW.out.next HBL.out)
            have HLK := hide (HLI.out.nexts HBL.out)
            obtain ⟨vs, hv1, hv2, hv3⟩ := HRK.out
            have HV1 := hide hv1
            have HV2 := hide hv2
            have HV3 := hide hv3
            have HMX : Hid (((Ls.map lineW).take i).length = i) := hide (by rw [List.length_take, List.length_map]; have := HNL.out; omega)
            clear hv1 hv2 hv3 HRK
            go_wp2_with (first | (at_builtin; refine wpList_append_own _ rfl _ _ 33 rfl w.heap.size 35 iT _ 1 24 Try.underlying33 HT.out HT0.out HT1.out HT2.out rfl (by decide) u3 _ _ rfl HV1.out ⟨wk.heap.size, 0, none⟩ 1 1 [(.slice a6 m6 c6)] rfl rfl (cell_val _ _ _) (by intro x hx; rw [List.mem_singleton.1 hx]; rfl) (by rw [HMX.out]; unfold maxLen; omega) (by rw [HMX.out]; omega) (by have := HBW.out.size; have := HBL.out.size; omega) ?_; intro v3 w3 hown hgrow hnil; have HR3 : Hid (WRow w3 w.heap.size v3 ((Ls.map lineW).take (i + 1))) := hide (by rw [HTK.out, HEW.out]; exact WRow.app HV1.out HV2.out HV3.out (HOL.out.base HBW.out.size) hgrow hown); have HBW3 : Hid (Below w.heap.size w w3) := hide (below_row (HBW.out.trans (HBL.out.mono HBW.out.size)) HV1.out (Nat.le_refl _) (by have := HBW.out.size; have := HBL.out.size; omega) hgrow); have HLI3 : Hid (OwnS w3 w.heap.size (.slice (some ⟨gl, 0, none⟩) N capl) Ls) := hide (HLK.out.keepTy HV1.out (by decide) hgrow); clear hown hgrow hnil))
            exact ⟨⟨i + 1, by omega, by go_num, HR3, HLI3, HBW3⟩, by simp [intOf]; omega⟩
    · have hin : i = N := by omega
      subst hin
      have HE : Hid ((Ls.map lineW).take i = Ls.map lineW) := hide (List.take_of_length_le (by rw [List.length_map, HNL.out]; exact Nat.le_refl _))
      go_wp2_with fail
      go_ret
      exact ⟨_, rfl, by rw [← HE.out]; exact HROW.out, HBW.out⟩
end Go.Proofs.Ytgegnkboibgbgaa
