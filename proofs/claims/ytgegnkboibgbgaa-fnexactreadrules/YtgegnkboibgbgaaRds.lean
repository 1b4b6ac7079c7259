/-
Contracts of functions of this seat.
-/
import Derived.Test.YtgegnkboibgbgaaRows
import Derived.WalkKit
import Derived.ProofKit
import Derived.OpenShut
import Derived.Test.YtgegnkboibgbgaaLnl
import Derived.Test.YtgegnkboibgbgaaRpa
namespace Go.Proofs.Ytgegnkboibgbgaa
open Go.ChangeShapes Go.WideShapes Go.ChangeAt Go.RowKit
set_option linter.unusedVariables false
set_option maxRecDepth 100000
/-- What is read from lines of words: so many things at most, each some numbers. -/
def rdL (parse : List (List UInt8) → Option (List Int)) (most : Nat) : List (List (List UInt8)) → Nat → List Int → Nat → List Int × Int × Int
  | [], _, acc, _ => (acc, 0, 0)
  | ws :: r, n, acc, i => if ws.isEmpty then rdL parse most r n acc (i + 1) else match parse ws with
    | none => ([], 19, ((i + 1 : Nat) : Int))
    | some zs => if most ≤ n then ([], 8, ((i + 1 : Nat) : Int)) else rdL parse most r (n + 1) (acc ++ zs) (i + 1)
theorem rdL_at {parse : List (List UInt8) → Option (List Int)} {most : Nat} {Lw : List (List (List UInt8))} {i n : Nat} {acc : List Int} {ws : List (List UInt8)} (h : Lw[i]? = some ws) : rdL parse most (Lw.drop i) n acc i = if ws.isEmpty then rdL parse most (Lw.drop (i + 1)) n acc (i + 1) else match parse ws with
    | none => ([], 19, ((i + 1 : Nat) : Int))
    | some zs => if most ≤ n then ([], 8, ((i + 1 : Nat) : Int)) else rdL parse most (Lw.drop (i + 1)) (n + 1) (acc ++ zs) (i + 1) := by
  obtain ⟨hi, e⟩ := List.getElem?_eq_some_iff.1 h
  rw [List.drop_eq_getElem_cons hi, e]
  rfl
theorem rdL_end {parse : List (List UInt8) → Option (List Int)} {most : Nat} {Lw : List (List (List UInt8))} {i n : Nat} {acc : List Int} (h : Lw.length ≤ i) : rdL parse most (Lw.drop i) n acc i = (acc, 0, 0) := by
  rw [List.drop_eq_nil_of_le h]
  rfl
/-- A row of rows, one of them. -/
theorem WRow.at {w : World} {B : Nat} {v : Value} {L : List (List (List UInt8))} (h : WRow w B v L) (h0 : 0 < L.length) : ∃ g cap, v = .slice (some ⟨g, 0, none⟩) L.length cap ∧ g < w.heap.size ∧ B ≤ g ∧ L.length ≤ cap ∧ ∀ (i : Nat) q, L[i]? = some q → ∃ a m c, w.cell? ⟨g, i, none⟩ = some (.slice a m c) ∧ m = q.length ∧ OwnS w B (.slice a m c) q := by
  obtain ⟨vs, h1, h2, h3⟩ := h
  rcases h1.2 with ⟨_, hn⟩ | ⟨g, cap, cur, hv, hB, hg, hnc, hcm, hcs, htake⟩
  · omega
  · refine ⟨g, cap, hv, (Array.getElem?_eq_some_iff.1 hg).1, hB, hnc, fun i q hq => ?_⟩
    obtain ⟨u, hu, ho⟩ := h3 i q hq
    have hi : i < L.length := (List.getElem?_eq_some_iff.1 hq).1
    have h' : w.ownsRow B 35 1 (.slice (some ⟨g, 0, none⟩) L.length cap) L.length vs := hv ▸ h1
    have hc := h'.cellAt i (by omega)
    obtain ⟨a, m, c, hsl, hm⟩ := ho.sl
    rw [hu, hsl] at hc
    rw [hsl] at ho
    exact ⟨a, m, c, hc, hm, ho⟩
theorem OwnS.arrS {w : World} {B m c : Nat} {a : Option Addr} {q : List (List UInt8)} (h : OwnS w B (.slice a m c) q) (h0 : 0 < q.length) : ∃ g, a = some ⟨g, 0, none⟩ ∧ ArrS w (some ⟨g, 0, none⟩) q ∧ m ≤ c := by
  obtain ⟨g, cap, hv, hB, hg, hc, hcells⟩ := h.cellS h0
  simp only [Value.slice.injEq] at hv
  obtain ⟨rfl, rfl, rfl⟩ := hv
  refine ⟨g, rfl, fun j hj => ⟨g, 0, rfl, hg, ?_⟩, hc⟩
  rw [Nat.zero_add]
  rw [hcells j q[j] (List.getElem?_eq_getElem hj)]
theorem fieldsB_mem : ∀ (x cur p : List UInt8), p ∈ fieldsB x cur → p.length ≤ x.length + cur.length
  | [], cur, p, h => by
    unfold fieldsB at h
    split at h
    · simp at h
    · rw [List.mem_singleton.1 h]; omega
  | c :: r, cur, p, h => by
    unfold fieldsB at h
    split at h
    · split at h
      · have := fieldsB_mem r [] p h; simp at this; simp; omega
      · rcases List.mem_cons.1 h with rfl | h
        · (simp) <;> omega
        · have := fieldsB_mem r [] p h; simp at this; simp; omega
    · have := fieldsB_mem r (cur ++ [c]) p h; simp at this; simp; omega
theorem lineW_mem {q p : List UInt8} (h : p ∈ lineW q) : p.length ≤ q.length := by
  have h1 := fieldsB_mem _ _ _ h
  have h2 := upTo_len 35 q
  simp at h1
  omega
theorem WRow.keepTy {w w' : World} {B C e n K : Nat} {v u : Value} {L : List (List (List UInt8))} {xs : List Value} (h : WRow w B v L) (ho : w.ownsRow C e K u n xs) (he : e ≠ 9) (he2 : e ≠ 35) (hg : w.grownBy w' u.ownBlock) : WRow w' B v L := by
  obtain ⟨vs, h1, h2, h3⟩ := h
  refine ⟨vs, row_kept h1 (fun b eb => hg.block b (row_lt h1 eb).2 (fun e2 => own_apart2 ho h1 he2 e2.symm eb)), h2, fun i q hq => ?_⟩
  obtain ⟨x, hx, hxo⟩ := h3 i q hq
  exact ⟨x, hx, hxo.keepTy ho he hg⟩
theorem five_cells (w : World) (y0 y1 y2 y3 y4 : Int) (t : Nat) : ∀ (j : Nat) u, (ival [y0, y1, y2, y3, y4])[j]? = some u → (w.alloc (.cells #[.int .i64 y0, .int .i64 y1, .int .i64 y2, .int .i64 y3, .int .i64 y4] t)).cell? ((⟨w.heap.size, 0, none⟩ : Addr).add j) = some u := by
  intro j u hu
  have h := fun k => cell_of_row (w.alloc (.cells #[.int .i64 y0, .int .i64 y1, .int .i64 y2, .int .i64 y3, .int .i64 y4] t)) w.heap.size k #[.int .i64 y0, .int .i64 y1, .int .i64 y2, .int .i64 y3, .int .i64 y4] t (0, 0) (heap_alloc_new w _)
  match j with
  | 0 => rw [Addr.add_lit]; exact (h 0).trans hu
  | 1 => rw [Addr.add_lit]; exact (h 1).trans hu
  | 2 => rw [Addr.add_lit]; exact (h 2).trans hu
  | 3 => rw [Addr.add_lit]; exact (h 3).trans hu
  | 4 => rw [Addr.add_lit]; exact (h 4).trans hu
  | k + 5 => simp [ival] at hu
/-- A route's numbers out of a line's words. -/
def rtP (ws : List (List UInt8)) : Option (List Int) := (rtParse ws).map fun v => [v.1, v.2.1, v.2.2.1, v.2.2.2.1, v.2.2.2.2]
def rdAll (parse : List (List UInt8) → Option (List Int)) (most : Nat) (l : List UInt8) : List Int × Int × Int := if 20000 < l.length then ([], 7, 0) else rdL parse most ((splitL 10 l).map lineW) 0 [] 0
theorem row_form {w : World} {B e K n : Nat} {v : Value} {xs : List Value} (h : w.ownsRow B e K v n xs) : ∃ a c, v = .slice a n c := by
  rcases h.2 with ⟨rfl, rfl⟩ | ⟨g, cap, cur, rfl, _⟩
  · exact ⟨none, 0, rfl⟩
  · exact ⟨_, _, rfl⟩
end Go.Proofs.Ytgegnkboibgbgaa
