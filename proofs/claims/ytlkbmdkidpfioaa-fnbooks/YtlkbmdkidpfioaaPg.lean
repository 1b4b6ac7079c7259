/-
Contracts of functions of this seat.
-/
import Derived.Test.YtlkbmdkidpfioaaRows
import Derived.WalkKit
import Derived.ProofKit
import Derived.OpenShut
import Derived.Deep.QuietTactic
import Derived.Below
import Derived.Laws.Externs
import Derived.OwnWalk
import Derived.BigQuiet
import Derived.ArgAppend
import Derived.RegionTactic
import Derived.ChangeAlike
import Derived.Lib.QuietBelow
import Derived.Laws.OwnMore
import Derived.Lib.MinMax
import Derived.Deep.RegionHeld3
import Derived.Deep.RegionWith
import Derived.Deep.DeepAppendRoom
import Derived.Deep.Cut
import Derived.Laws.MakeOwn
import Derived.Deep.RegionLawGrows
import Derived.Deep.AppendLies
import Derived.StillTailTactics
import Derived.Test.YtlkbmdkidpfioaaPf
namespace Go.Proofs.Ytlkbmdkidpfioaa
open Go.ChangeShapes Go.WideShapes Go.ChangeAt Go.RowKit
set_option linter.unusedVariables false
set_option maxRecDepth 100000
set_option maxRecDepth 100000
/-- Whether a region that draws its order may be walked in this one: what only looks (true) comes as early as it may; all else comes when nothing else may. -/
def lexOrd (ops : Array Oper) : List (Nat × Bool) → Array Bool → Bool
  | [], listed => (Region.ready .any ops listed).isEmpty
  | (i, true) :: r, listed => Region.free .any ops listed i && (Region.ready .any ops listed).contains i && lexOrd ops r (listed.setIfInBounds i true)
  | (i, false) :: r, listed => (Region.ready .any ops listed == [i]) && lexOrd ops r (listed.setIfInBounds i true)
/-- The walk in that order: what looks yields its value in every world of S; what acts ends in a world of S. -/
def wpLex (P : Program) (ops : Array Oper) (Q : Exit → Act → World → Prop) (S : World → Prop) : List (Nat × Bool) → Act → World → Prop
  | [], a, w => Q .normal a w
  | (i, true) :: r, a, w => ∃ o v, ops[i]? = some o ∧ YieldsIf P ops S o v a ∧ (∀ c a w, Q (.panic c) (a.put o.dst v) w → Q (.panic c) a w) ∧ wpLex P ops Q S r (a.put o.dst v) w
  | (i, false) :: r, a, w => wpOp P ops Q i (fun a' w' => S w' ∧ wpLex P ops Q S r a' w') a w
theorem wpOp_imp {P : Program} {ops : Array Oper} {Q : Exit → Act → World → Prop} {i : Nat} {K K' : Act → World → Prop} {a : Act} {w : World} (h : wpOp P ops Q i K a w) (hk : ∀ a w, K a w → K' a w) : wpOp P ops Q i K' a w := wpOp_mono hk h
theorem lex_any {P : Program} {ops : Array Oper} {Q : Exit → Act → World → Prop} {S : World → Prop} (hs : Region.noSelect ops = true) :
    ∀ (l : List (Nat × Bool)) (listed : Array Bool) (a : Act) (w : World), lexOrd ops l listed = true → S w → wpLex P ops Q S l a w → wpAnyH P .any ops Q S l.length listed a w
  | [], listed, a, w, ho, _, h => wpAnyH_done (by simpa [lexOrd] using ho) h _
  | (i, true) :: r, listed, a, w, ho, hS, h => by
    obtain ⟨o, v, hi, hy, hq, hr⟩ := h
    simp only [lexOrd, Bool.and_eq_true] at ho
    exact wpAnyH_take hi hs ho.1.1 ho.1.2 hq hy hS (lex_any hs r _ _ _ ho.2 hS hr)
  | (i, false) :: r, listed, a, w, ho, hS, h => by
    simp only [lexOrd, Bool.and_eq_true, beq_iff_eq] at ho
    refine wpAnyH_all ho.1 (by simp) ?_
    intro j hj
    have e : j = i := by simpa using hj
    subst e
    exact wpOp_imp h (fun a w hh => ⟨hh.1, lex_any hs r _ _ _ ho.2 hh.1 hh.2⟩)
/-- A region that draws its order, walked in one order. -/
theorem wp_region_lex {P : Program} {ops : Array Oper} {Q : Exit → Act → World → Prop} {id : Nat} {a : Act} {w : World} (S : World → Prop) (l : List (Nat × Bool)) (hm : P.follows .mixedOrders = true) (hs : Region.noSelect ops = true) (ho : lexOrd ops l (Array.replicate ops.size false) = true) (hl : l.length = ops.size) (hS : S w.drew) (h : wpLex P ops Q S l a w.drew) : (Code.region id ops true).wp P Q a w :=
  wp_region_held_drew hm hS (fun _ => by have k := lex_any hs l _ _ _ ho hS h; rw [hl] at k; exact k)
theorem lex_get {ops : Array Oper} {i : Nat} {o : Oper} {t : List Oper} (h : ops.toList.drop i = o :: t) : ops[i]? = some o := by
  have := congrArg List.head? h
  rw [List.head?_drop, List.head?_cons] at this
  rw [← this, Array.getElem?_toList]
section
variable {P : Program} {ops : Array Oper} {Q : Exit → Act → World → Prop} {S : World → Prop} {i : Nat} {o : Oper} {t : List Oper} {r : List (Nat × Bool)} {a : Act} {w : World}
/-- It yields its value in every world of S. -/
theorem wpLex_take (v : Value) (ho : ops.toList.drop i = o :: t) (hw : Region.wanted o (yielded ops a.tmps) = true) (hq : ∀ c a w, Q (.panic c) (a.put o.dst v) w → Q (.panic c) a w) (hy : ∀ w, S w → (execOp a.eval o).run P w = .ok (.value v) w) (h : wpLex P ops Q S r (a.put o.dst v) w) : wpLex P ops Q S ((i, true) :: r) a w :=
  ⟨o, v, lex_get ho, .inl ⟨hw, hy⟩, hq, h⟩
/-- It acts. -/
theorem wpLex_act (ho : ops.toList.drop i = o :: t) (hw : Region.wanted o (yielded ops a.tmps) = true) (h : ∀ K : Act → World → Prop, Shut (∀ a w, S w → wpLex P ops Q S r a w → K a w) → Oper.wp P o a w K Q) : wpLex P ops Q S ((i, false) :: r) a w :=
  wpOp_step (lex_get ho) (fun K' hK => by rw [if_pos hw]; exact h K' (fun a w hS hh => hK a w ⟨hS, hh⟩))
end
theorem wpLex_nil {P : Program} {ops : Array Oper} {Q : Exit → Act → World → Prop} {S : World → Prop} {a : Act} {w : World} (h : Q .normal a w) : wpLex P ops Q S [] a w := h

/-- The board in its box p beside the source: its row lies in neither's block. -/
def BkM (w W : World) (g len : Nat) (a0 : Option Addr) (cap0 p : Nat) (u x : Int) (a : Option Addr) (n c : Nat) (os : List PieceM) : Prop :=
  LwS w W g len a0 cap0 ∧ HoldV W p #[.int .i64 u, .int .i64 x, .slice a n c] 29 ∧ OwnP W 0 (.slice a n c) os ∧ (∀ k, (Value.slice a n c).ownBlock = some k → k ≠ g ∧ k ≠ p) ∧ w.heap.size ≤ p ∧ g ≠ p ∧ os.length = n
theorem BkM.next {w W W' : World} {g len cap0 p n c : Nat} {a0 a : Option Addr} {u x : Int} {os : List PieceM} (h : BkM w W g len a0 cap0 p u x a n c os) (hb : Below W.heap.size W W') : BkM w W' g len a0 cap0 p u x a n c os := ⟨h.1.next hb, h.2.1.next hb, owns_nx h.2.2.1 hb, h.2.2.2⟩
theorem BkM.step {w W W' : World} {g len cap0 p n c : Nat} {a0 a : Option Addr} {u x : Int} {os : List PieceM} (h : BkM w W g len a0 cap0 p u x a n c os) (hg : W.grownBy W' (some g)) (hs : SrcA W' g 25 len a0 cap0) : BkM w W' g len a0 cap0 p u x a n c os :=
  ⟨h.1.step hg hs, hv_gr h.2.1 hg (Ne.symm h.2.2.2.2.2.1), row_only h.2.2.1 (Only.of_some hg) (fun b hb => by have := (h.2.2.2.1 b hb).1; simp; omega), h.2.2.2⟩
theorem BkM.arr {w W : World} {g len cap0 p n c : Nat} {a0 a : Option Addr} {u x : Int} {os : List PieceM} (h : BkM w W g len a0 cap0 p u x a n c os) : ArrP W a (os.flatMap valPiece) ∧ n ≤ c := by
  obtain ⟨a1, c1, e, h1, h2, _⟩ := arrP_own h.2.2.1
  injection e with e1 e2 e3
  subst e1 e3
  exact ⟨h1, by rw [e2]; exact h2⟩
/-- Another board comes into the box. -/
theorem BkM.put {w W : World} {g len cap0 p n c n' c' H : Nat} {a0 a a' : Option Addr} {u x u' x' : Int} {os os' : List PieceM} (h : BkM w W g len a0 cap0 p u x a n c os) (ho : OwnP W H (.slice a' n' c') os') (hH : ∀ k, (Value.slice a' n' c').ownBlock = some k → k ≠ g ∧ k ≠ p) (hl : os'.length = n') :
    BkM w (((W.setCell ⟨p, 0, none⟩ (.int .i64 u')).setCell ⟨p, 1, none⟩ (.int .i64 x')).setCell ⟨p, 2, none⟩ (.slice a' n' c')) g len a0 cap0 p u' x' a' n' c' os' := by
  have hg := grown3 W p (.int .i64 u') (.int .i64 x') (.slice a' n' c')
  have hl' := h.2.1.lt
  refine ⟨⟨below_gr h.1.1 hg h.1.1.size h.2.2.2.2.1, h.1.2.1.same (hg.block g h.1.lt (fun e => h.2.2.2.2.2.1 (Option.some.inj e))), h.1.2.2⟩, ?_, row_only (ownP_mono ho (Nat.zero_le _)) (Only.of_some hg) (fun b hb => by have := (hH b hb).2; simp; omega), hH, h.2.2.2.2.1, h.2.2.2.2.2.1, hl⟩
  have q := hv_set (hv_set (hv_set h.2.1 0 (.int .i64 u')) 1 (.int .i64 x')) 2 (.slice a' n' c')
  simp only [List.setIfInBounds_toArray, List.set_cons_zero, List.set_cons_succ] at q
  exact q
/-- A row in new memory lies in no older block. -/
theorem own_new {W : World} {H g p n c : Nat} {a : Option Addr} {os : List PieceM} (h : OwnP W H (.slice a n c) os) (h1 : g < H) (h2 : p < H) : ∀ k, (Value.slice a n c).ownBlock = some k → k ≠ g ∧ k ≠ p := fun k hk => by have := (ownsAt.lt h k hk).1; omega
/-- What the three parts of a valid board are. -/
def PrM (u x P L S : Int) (os : List PieceM) : Prop := P = pipeS os ∧ L = lostS os ∧ S = sackS os ∧ 0 ≤ P ∧ 0 ≤ L ∧ 0 ≤ S ∧ P + L + S = x - u ∧ 0 ≤ u ∧ u ≤ x ∧ x ≤ 1099511627776
theorem PrM.of {u x : Int} {os : List PieceM} (h : bOK u x os) : PrM u x (pipeS os) (lostS os) (sackS os) os := by
  have h1 := bOK_three (a := os) (b := []) (by rw [List.append_nil]; exact h)
  exact ⟨rfl, rfl, rfl, h1.1, h1.2.1, h1.2.2.1, parts_sum _ _ _ h.2.2.2, h.1, chk_le _ _ _ h.2.2.2, h.2.1⟩
/-- What each operation leaves where the place of an acknowledgement is drawn. -/
def A28 (q : Nat) (u x : Int) : Nat → Value → World → Prop
  | 0, v, _ => v = .pointer (some ⟨q, 0, none⟩)
  | 1, v, _ => v = .int .i64 u
  | 2, v, _ => v = .pointer (some ⟨q, 1, none⟩)
  | 3, v, _ => v = .int .i64 x
  | 4, v, _ => v = .pointer (some ⟨q, 0, none⟩)
  | 5, v, _ => v = .int .i64 u
  | 6, v, _ => v = .int .i64 (x - u)
  | 7, v, _ => v = .int .i64 (x - u + 1)
  | 8, v, _ => ∃ y : Int, v = .int .i64 y ∧ 0 ≤ y ∧ y ≤ x - u
  | 9, v, _ => ∃ y : Int, v = .int .i64 y ∧ u ≤ y ∧ y ≤ x
  | _, _, _ => True
theorem A28_kept {q g : Nat} {u x : Int} : ∀ (i : Nat) (v : Value) (W W' : World), W.grownBy W' (some g) → A28 q u x i v W → A28 q u x i v W' := by
  intro i v W W' hg h
  unfold A28 at h ⊢
  split at h <;> exact h
theorem arrI_two {W : World} {b T : Nat} {f t : Int} (h : HoldV W b #[.int .i64 f, .int .i64 t] T) : ArrI W (some ⟨b, 0, none⟩) [f, t] := by
  intro j hj
  refine ⟨b, 0, rfl, h.lt, ?_⟩
  match j with
  | 0 => exact h.cell 0 _ rfl
  | 1 => exact h.cell 1 _ rfl
  | j + 2 => simp at hj; omega
theorem arrI_nil (W : World) (a : Option Addr) : ArrI W a [] := fun j hj => by simp at hj
theorem BkM.drew {w W : World} {g len cap0 p n c : Nat} {a0 a : Option Addr} {u x : Int} {os : List PieceM} (h : BkM w W g len a0 cap0 p u x a n c os) : BkM w W.drew g len a0 cap0 p u x a n c os := ⟨h.1.drew, h.2.1, h.2.2⟩
/-- The row stays where another board comes into the box. -/
theorem BkM.row {w W W' : World} {g len cap0 p n c : Nat} {a0 a : Option Addr} {u x : Int} {os : List PieceM} (h : BkM w W g len a0 cap0 p u x a n c os) (hg : W.grownBy W' (some p)) : OwnP W' 0 (.slice a n c) os := row_only h.2.2.1 (Only.of_some hg) (fun b hb => by have := (h.2.2.2.1 b hb).2; simp; omega)
/-- A block that lies elsewhere than all of these is written. -/
theorem BkM.other {w W W' : World} {g len cap0 p n c b : Nat} {a0 a : Option Addr} {u x : Int} {os : List PieceM} (h : BkM w W g len a0 cap0 p u x a n c os) (hg : W.grownBy W' (some b)) (hb : w.heap.size ≤ b) (h1 : g ≠ b) (h2 : p ≠ b) (h3 : ∀ k, (Value.slice a n c).ownBlock = some k → k ≠ b) : BkM w W' g len a0 cap0 p u x a n c os :=
  ⟨⟨below_gr h.1.1 hg h.1.1.size hb, h.1.2.1.same (hg.block g h.1.lt (fun e => h1 (Option.some.inj e))), h.1.2.2⟩, hv_gr h.2.1 hg h2, row_only h.2.2.1 (Only.of_some hg) (fun k hk => by have := h3 k hk; simp; omega), h.2.2.2⟩
theorem PrM.ack {u x P L S ack : Int} {zs : List Int} {os : List PieceM} (hp : PrM u x P L S os) (hok : bOK u x os) (hs : u ≤ ack ∧ ack ≤ x) : ∃ P2 L2 S2 G : Int, PrM ack x P2 L2 S2 (ackL ack x zs os) ∧ G = ackG ack x zs os ∧ G ≤ S2 ∧ S2 ≤ S + G ∧ 0 ≤ G ∧ G ≤ x - u := by
  have h1 := ack_parts (ack := ack) (x := x) (zs := zs) os u x hok.2.2.2
  have h2 := ackG_le ack x zs os u x hok.2.2.2
  exact ⟨_, _, _, _, PrM.of (bOK_ack zs hok hs), rfl, h1.1, by rw [hp.2.2.1]; exact h1.2, h2.1, h2.2⟩
theorem own_form {W : World} {H : Nat} {v : Value} {os : List PieceM} (h : OwnP W H v os) : ∃ (a : Option Addr) (n c : Nat), v = .slice a n c ∧ OwnP W H (.slice a n c) os ∧ os.length = n := by
  obtain ⟨a, c, rfl, _⟩ := arrP_own h
  exact ⟨a, _, c, rfl, h, rfl⟩
theorem PrM.send {u x P L S k t : Int} {os : List PieceM} (hp : PrM u x P L S os) (hok : bOK u x os) (hs : sdOK k t) (hf : ¬ sdFull x k os) : PrM u (x + k) (P + k) L S (os ++ [newP x k t]) := by
  have h := PrM.of (bOK_send hok hs hf)
  obtain ⟨h1, h2, h3⟩ := send_parts os x k t
  rw [show (newP x k t) = ⟨x, x + k, t, 1, false, false⟩ from rfl] at h ⊢
  obtain ⟨-, -, -, g⟩ := h
  rw [h1, h2, h3, ← hp.1, ← hp.2.1, ← hp.2.2.1] at g
  exact ⟨by rw [h1, hp.1], by rw [h2, hp.2.1], by rw [h3, hp.2.2.1], g⟩
theorem PrM.lose {u x P L S : Int} {os : List PieceM} (hp : PrM u x P L S os) (hok : bOK u x os) : PrM u x (P - loseN os) (L + loseN os) S (loseL os) := by
  have h := PrM.of (bOK_lose hok)
  obtain ⟨h1, h2, h3⟩ := lose_parts os
  obtain ⟨-, -, -, g⟩ := h
  rw [h1, h2, h3, ← hp.1, ← hp.2.1, ← hp.2.2.1] at g
  exact ⟨by rw [h1, hp.1], by rw [h2, hp.2.1], by rw [h3, hp.2.2.1], g⟩
theorem PrM.first {u x P L S : Int} {os : List PieceM} (hp : PrM u x P L S os) (hok : bOK u x os) : PrM u x (P - firstN os) (L + firstN os) S (firstL os) := by
  have h := PrM.of (bOK_first hok)
  obtain ⟨h1, h2, h3⟩ := first_parts os
  obtain ⟨-, -, -, g⟩ := h
  rw [h1, h2, h3, ← hp.1, ← hp.2.1, ← hp.2.2.1] at g
  exact ⟨by rw [h1, hp.1], by rw [h2, hp.2.1], by rw [h3, hp.2.2.1], g⟩
theorem PrM.again {u x P L S t : Int} {A0 B0 : List PieceM} {q : PieceM} (hp : PrM u x P L S (A0 ++ q :: B0)) (hok : bOK u x (A0 ++ q :: B0)) (ht : 0 ≤ t ∧ t ≤ 1000000000) (h5 : q.f5 = true) (h4 : q.f4 = false) : PrM u x (P + (q.f1 - q.f0)) (L - (q.f1 - q.f0)) S (A0 ++ againP t q :: B0) := by
  have h := PrM.of (bOK_again (t := t) hok ht)
  obtain ⟨h1, h2, h3⟩ := again_parts t A0 B0 q h5 h4
  obtain ⟨-, -, -, g⟩ := h
  rw [h1, h2, h3, ← hp.1, ← hp.2.1, ← hp.2.2.1] at g
  exact ⟨by rw [h1, hp.1], by rw [h2, hp.2.1], by rw [h3, hp.2.2.1], g⟩
theorem PrM.split {u x P L S k : Int} {os : List PieceM} (hp : PrM u x P L S os) : PrM u x P L S (splitL k os) := by
  obtain ⟨h1, h2, h3⟩ := split_parts k os
  rw [PrM, h1, h2, h3]
  exact hp
theorem parts_call {u x P L S : Int} {os : List PieceM} {W : World} {a : Option Addr} {n c : Nat} (hok : bOK u x os) (hp : PrM u x P L S os) (hn : os.length = n) (ha : ArrP W a (os.flatMap valPiece)) :
    Calls Try.prog 8 #[.agg #[.int .i64 u, .int .i64 x, .slice a n c]] W fun e w' => e = .returned (.tuple #[.int .i64 P, .int .i64 L, .int .i64 S]) ∧ Below W.heap.size W w' := by
  rw [hp.1, hp.2.1, hp.2.2.1]
  exact lwParts_walk hok a n c W hn ha
theorem pipe_call {u x P L S : Int} {os : List PieceM} {W : World} {a : Option Addr} {n c : Nat} (hok : bOK u x os) (hp : PrM u x P L S os) (hn : os.length = n) (ha : ArrP W a (os.flatMap valPiece)) (hc : n ≤ c) :
    Calls Try.prog 7 #[.agg #[.int .i64 u, .int .i64 x, .slice a n c]] W fun e w' => e = .returned (.int .i64 P) ∧ Below W.heap.size W w' := by
  rw [hp.1]
  exact (implPipe_yes hok) a n c W hn ha hc (by have := hok.2.2.1; omega) trivial
end Go.Proofs.Ytlkbmdkidpfioaa
