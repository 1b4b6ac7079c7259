/-
Contracts of functions of this seat.
-/
import Derived.Test.YtmlpninkilcjaaaRows
import Derived.WalkKit
import Derived.ProofKit
import Derived.OpenShut
import Derived.Test.YtmlpninkilcjaaaLm8
import Derived.Test.YtmlpninkilcjaaaDfr
import Derived.Test.YtmlpninkilcjaaaSsp
import Derived.Deep.RegionLaw
import Derived.Laws.AppendOwn
import Derived.Deep.RegionLawGrows
import Derived.Deep.CutRange
namespace Go.Proofs.Ytmlpninkilcjaaa
open Go.ChangeShapes Go.WideShapes Go.ChangeAt Go.RowKit
set_option linter.unusedVariables false
set_option maxRecDepth 100000
theorem step_append_own {P : Program} {ops : Array Oper} {o : Oper} {a : Act} {w : World} {K : Act → World → Prop} {Q : Exit → Act → World → Prop} {E : Prop} (hgd : o.guard = none) (s x : Operand) (t : TypeId)
    (ho : o.op = .call { callee := .builtin .append, args := #[s, x], argTypes := #[t, t] })
    (base : Nat) (e : TypeId) (i : TypeInfo) (z : Value) (size bytes : Nat) (ht : P.underlying t = some (.slice e)) (hi : P.info? e = some i) (hz : i.zero = some z)
    (hsize : i.size = size) (hby : i.bytes = bytes) (hzs : z.cells.size = size) (hsz : 0 < size)
    (v : Value) (n : Nat) (xs : List Value) (hs : a.eval s = v) (hown : w.ownsRow base e size v n xs)
    (ad : Addr) (m c : Nat) (news : List Value) (hx : a.eval x = .slice (some ad) m c) (hl : news.length = m * size) (hnews : ∀ j u, news[j]? = some u → w.cell? (ad.add j) = some u) (h1 : ∀ u ∈ news, u.oneCell' = true)
    (h63 : n + m ≤ maxLen) (hbytes : (n + m) * bytes ≤ 140737488355328) (hbase : base ≤ w.heap.size)
    (h : ∀ v' w', w'.ownsRow base e size v' (n + m) (xs ++ news) → w.grownBy w' v.ownBlock → (v' = .slice none 0 0 ↔ v = .slice none 0 0 ∧ m = 0) → K (a.put o.dst v') w') :
    if Region.wanted o (yielded ops a.tmps) = true then Oper.wp P o a w K Q else E := by
  have hw : Region.wanted o (yielded ops a.tmps) = true := by simp [Region.wanted, hgd]
  rw [if_pos hw]
  exact wp_append_own w s x t ho base e i z size bytes ht hi hz hsize hby hzs hsz v n xs hs hown ad m c news hx hl hnews h1 h63 hbytes hbase h

abbrev zR : Array Value := #[.int .i64 0, .int .i64 0, .int .i64 0, .int .i64 0, .int .i64 0]
theorem h_last1 (W : World) (a o : Obj) : ((W.alloc a).alloc o).heap[W.heap.size + 1]? = some o := (two_allocs W a o).2.2
theorem h_last2 (W : World) (a b o : Obj) : (((W.alloc a).alloc b).alloc o).heap[W.heap.size + 1 + 1]? = some o := by
  have h := heap_alloc_new ((W.alloc a).alloc b) o
  rw [World.size_alloc, World.size_alloc] at h
  exact h
theorem hold_under {W : World} {b T : Nat} {vs : Array Value} (h : HoldV W b vs T) (o : Obj) : HoldV (W.alloc o) b vs T := h.next ((Below.refl _ _).alloc (Nat.le_refl _) _)
theorem hold_g {W W' : World} {b T : Nat} {vs : Array Value} (hg : W.grownBy W' none) (h : HoldV W b vs T) : HoldV W' b vs T := (hg.block b h.lt (by simp)).trans h
theorem hold_d {W : World} {b T : Nat} {vs : Array Value} (h : HoldV W b vs T) : HoldV W.drew b vs T := h
/-- A block that is older than the row, or younger than where it lies, stays. -/
theorem hold_row {W0 W W' : World} {B n b T : Nat} {v : Value} {xs : List Value} {vs : Array Value} (ho : W0.ownsRow B rtT8 5 v n xs) (hg : W.grownBy W' v.ownBlock) (h : HoldV W b vs T) (hb : b < B ∨ W0.heap.size ≤ b) : HoldV W' b vs T := by
  refine (hg.block b h.lt (fun e => ?_)).trans h
  rcases ho.2 with ⟨rfl, _⟩ | ⟨g, cap, cur, rfl, hB, hh, _⟩
  · cases e
  · have e2 : b = g := by cases e; rfl
    have := (Array.getElem?_eq_some_iff.1 hh).1
    omega
theorem five_of_hold {W : World} {g T : Nat} {z0 z1 z2 z3 z4 : Int} (h : HoldV W g #[.int .i64 z0, .int .i64 z1, .int .i64 z2, .int .i64 z3, .int .i64 z4] T) : ∀ (j : Nat) u, (ival [z0, z1, z2, z3, z4])[j]? = some u → W.cell? ((⟨g, 0, none⟩ : Addr).add j) = some u := by
  intro j u hu
  have h2 := cell_of_row W g j #[.int .i64 z0, .int .i64 z1, .int .i64 z2, .int .i64 z3, .int .i64 z4] T (0, 0) h
  rw [Addr.add_lit, Nat.zero_add, h2]
  simpa [ival] using hu
theorem grown_none_below {W W' : World} (hg : W.grownBy W' none) : Below W.heap.size W W' := ⟨hg.os, hg.tape, hg.output, hg.size, fun b hb => hg.block b hb (by simp)⟩
theorem below_d0 (W : World) : Below W.heap.size W W.drew := (Below.refl _ _).drew
theorem below_d1 (W : World) (o : Obj) : Below W.heap.size W (W.alloc o).drew := ((Below.refl _ _).alloc (Nat.le_refl _) _).drew
theorem below_d2 (W : World) (o p : Obj) : Below W.heap.size W ((W.alloc o).alloc p).drew := (two_allocs W o p).1.drew
theorem below_d3 (W : World) (o p q : Obj) : Below W.heap.size W (((W.alloc o).alloc p).alloc q).drew := (three_alloc W o p q).drew
theorem row_alloc2 {W : World} {B n : Nat} {v : Value} {xs : List Value} (h : W.ownsRow B rtT8 5 v n xs) (o p : Obj) : ((W.alloc o).alloc p).ownsRow B rtT8 5 v n xs := (h.alloc o).alloc p
theorem row_below {W W' : World} {B C n : Nat} {v : Value} {xs : List Value} (ho : W.ownsRow B rtT8 5 v n xs) (hg : W.grownBy W' v.ownBlock) (hC : C ≤ B) (hs : C ≤ W.heap.size) : Below C W W' := Below.grown (Below.refl _ _) hg hs (fun k e => Nat.le_trans hC (own_block_ge ho k e))
theorem below_then1 {W WB u1 : World} (hg : WB.grownBy u1 none) (h : Below W.heap.size W WB) : Below W.heap.size W u1 := h.trans ((grown_none_below hg).mono h.size)
theorem below_then2 {W W2 u2 : World} {B n : Nat} {v : Value} {xs : List Value} (hg : W2.grownBy u2 v.ownBlock) (ho : W2.ownsRow B rtT8 5 v n xs) (hN : W.heap.size ≤ B) (h : Below W.heap.size W W2) : Below W.heap.size W u2 := h.trans (row_below ho hg hN h.size)
theorem below_then3 {W W3 u3 : World} (hb : Below W3.heap.size W3 u3) (h : Below W.heap.size W W3) : Below W.heap.size W u3 := h.trans (hb.mono h.size)
theorem below_a1 {W u : World} (h : Below W.heap.size W u) (o : Obj) : Below W.heap.size W (u.alloc o) := h.alloc h.size o
theorem below_a2 {W u : World} (h : Below W.heap.size W u) (o p : Obj) : Below W.heap.size W ((u.alloc o).alloc p) := below_a1 (below_a1 h o) p
theorem below_s5 {W u : World} {x : Nat} (h : Below W.heap.size W u) (hx : W.heap.size ≤ x) (y0 y1 y2 y3 y4 : Value) : Below W.heap.size W (((((u.setCell ⟨x, 0, none⟩ y0).setCell ⟨x, 1, none⟩ y1).setCell ⟨x, 2, none⟩ y2).setCell ⟨x, 3, none⟩ y3).setCell ⟨x, 4, none⟩ y4) :=
  ((((h.setCell (p := ⟨x, 0, none⟩) hx _).setCell (p := ⟨x, 1, none⟩) hx _).setCell (p := ⟨x, 2, none⟩) hx _).setCell (p := ⟨x, 3, none⟩) hx _).setCell (p := ⟨x, 4, none⟩) hx _
theorem hold_s5 {u : World} {x T : Nat} {o0 o1 o2 o3 o4 : Value} (h : HoldV u x #[o0, o1, o2, o3, o4] T) (y0 y1 y2 y3 y4 : Value) : HoldV (((((u.setCell ⟨x, 0, none⟩ y0).setCell ⟨x, 1, none⟩ y1).setCell ⟨x, 2, none⟩ y2).setCell ⟨x, 3, none⟩ y3).setCell ⟨x, 4, none⟩ y4) x #[y0, y1, y2, y3, y4] T := ((((h.set 0 y0).set 1 y1).set 2 y2).set 3 y3).set 4 y4
theorem le_a1 {n : Nat} {u : World} (h : n ≤ u.heap.size) (o : Obj) : n ≤ (u.alloc o).heap.size := by rw [World.size_alloc]; omega
theorem le_a2 {n : Nat} {u : World} (h : n ≤ u.heap.size) (o p : Obj) : n ≤ ((u.alloc o).alloc p).heap.size := le_a1 (le_a1 h o) p
theorem le_of_b {W WB u1 : World} (_ : WB.grownBy u1 none) (h : Below W.heap.size W WB) : W.heap.size ≤ WB.heap.size := h.size
theorem lt_wb {WB u1 : World} {b T : Nat} {vs : Array Value} (_ : WB.grownBy u1 none) (h : HoldV WB b vs T) : b < WB.heap.size := h.lt
theorem hold_n {W W' : World} {b T : Nat} {vs : Array Value} (hb : Below W.heap.size W W') (h : HoldV W b vs T) : HoldV W' b vs T := h.next hb
theorem le_of_w {W u : World} (h : Below W.heap.size W u) : W.heap.size ≤ u.heap.size := h.size
theorem le_of_w1 {W u : World} (h : Below W.heap.size W u) : W.heap.size ≤ u.heap.size + 1 := Nat.le_trans h.size (Nat.le_succ _)
theorem ge_w {W u : World} {x T : Nat} {vs : Array Value} (_ : HoldV u x vs T) (_ : Below W.heap.size W u) (h : W.heap.size ≤ x) : W.heap.size ≤ x := h
theorem OwnI.of_two {W : World} {B e n : Nat} {v : Value} {xs ys : List Int} (h : W.ownsRow B e 5 v (n + 1) (ival xs ++ ival ys)) : OwnI W B e 5 v (n + 1) (xs ++ ys) := by
  rw [← ival_app] at h
  exact ownsAt.of_row h
theorem more_same {ys : List Int} {d : Int} {q j : Nat} (hlen : ys.length = q * 5) (h : rtBest ys d q = some j) :
    rtBest (ys ++ [rA ys j, rB ys j, 167772177, rL ys j, rM ys j]) d (q + 1) = some j ∧ rA (ys ++ [rA ys j, rB ys j, 167772177, rL ys j, rM ys j]) j = rA ys j ∧ rB (ys ++ [rA ys j, rB ys j, 167772177, rL ys j, rM ys j]) j = rB ys j ∧ rV (ys ++ [rA ys j, rB ys j, 167772177, rL ys j, rM ys j]) j = rV ys j ∧ rL (ys ++ [rA ys j, rB ys j, 167772177, rL ys j, rM ys j]) j = rL ys j ∧ rM (ys ++ [rA ys j, rB ys j, 167772177, rL ys j, rM ys j]) j = rM ys j := by
  have key : ∀ f, (ys ++ [rA ys j, rB ys j, 167772177, rL ys j, rM ys j]).getD (q * 5 + f) 0 = [rA ys j, rB ys j, 167772177, rL ys j, rM ys j].getD f 0 := fun f => by
    rw [List.getD_eq_getElem?_getD, List.getD_eq_getElem?_getD, List.getElem?_append_right (by omega), hlen]
    congr 2
    omega
  have eb : rB (ys ++ [rA ys j, rB ys j, 167772177, rL ys j, rM ys j]) q = rB ys j := key 1
  have em : rM (ys ++ [rA ys j, rB ys j, 167772177, rL ys j, rM ys j]) q = rM ys j := key 4
  have h2 := best_more (ms := [rA ys j, rB ys j, 167772177, rL ys j, rM ys j]) hlen h (by rw [eb]; exact Int.le_refl _) (fun _ => by rw [em]; exact Int.le_refl _)
  exact ⟨h2.1, h2.2.1, h2.2.2.1, h2.2.2.2.1, h2.2.2.2.2.1, h2.2.2.2.2.2⟩
theorem ex_base {W WB u1 : World} {n : Nat} {v : Value} {xs : List Value} (hg : WB.grownBy u1 none) (ho : u1.ownsRow WB.heap.size rtT8 5 v n xs) (h : Below W.heap.size W WB) : ∃ S1, S1 = WB.heap.size ∧ u1.ownsRow S1 rtT8 5 v n xs ∧ W.heap.size ≤ S1 ∧ S1 ≤ u1.heap.size := ⟨_, rfl, ho, h.size, hg.size⟩
theorem lt_wb' {WB u1 : World} {b T S1 : Nat} {vs : Array Value} (_ : WB.grownBy u1 none) (e : S1 = WB.heap.size) (h : HoldV WB b vs T) : b < S1 := by rw [e]; exact h.lt
theorem hv0 (W : World) (vs : Array Value) (T : Nat) : HoldV (W.alloc (.cells vs T)) W.heap.size vs T := heap_alloc_new _ _
theorem hv1 (W : World) (a : Obj) (vs : Array Value) (T : Nat) : HoldV ((W.alloc a).alloc (.cells vs T)) (W.heap.size + 1) vs T := h_last1 _ _ _
theorem hv2 (W : World) (a b : Obj) (vs : Array Value) (T : Nat) : HoldV (((W.alloc a).alloc b).alloc (.cells vs T)) (W.heap.size + 1 + 1) vs T := h_last2 _ _ _ _
end Go.Proofs.Ytmlpninkilcjaaa
