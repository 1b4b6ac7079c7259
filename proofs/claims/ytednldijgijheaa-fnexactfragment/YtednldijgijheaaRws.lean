/-
Contracts of functions of this seat.
-/
import Derived.Test.YtednldijgijheaaRows
import Derived.WalkKit
import Derived.ProofKit
import Derived.OpenShut
import Derived.Test.YtednldijgijheaaFrc
namespace Go.Proofs.Ytednldijgijheaa
open Go.ChangeShapes Go.WideShapes Go.ChangeAt Go.RowKit
set_option linter.unusedVariables false
set_option maxRecDepth 100000
mutual
/-- The types of elements of the slices in a datum. -/
def tysD : D → List Nat
  | .c _ => []
  | .s e _ _ ds => e :: tysL ds
def tysL : List D → List Nat
  | [] => []
  | d :: ds => tysD d ++ tysL ds
end
theorem tysL_app : ∀ d1 d2 : List D, tysL (d1 ++ d2) = tysL d1 ++ tysL d2
  | [], d2 => by simp [tysL]
  | d :: d1, d2 => by simp only [List.cons_append, tysL, tysL_app d1 d2, List.append_assoc]
theorem tysL_flat {α : Type} (f : α → List D) (e : Nat) (hf : ∀ a, e ∉ tysL (f a)) : ∀ os : List α, e ∉ tysL (os.flatMap f)
  | [] => by simp [tysL]
  | o :: os => by
    rw [List.flatMap_cons, tysL_app, List.mem_append]
    rintro (h | h)
    · exact hf o h
    · exact tysL_flat f e hf os h
mutual
theorem Holds.ty {w : World} {B : Nat} : ∀ (d : D) (v : Value) (bs : List Nat), Holds w B d v bs → ∀ b ∈ bs, ∃ cur e, e ∈ tysD d ∧ w.heap[b]? = some (.cells cur e (0, 0))
  | .c u, v, bs, h, b, hb => by obtain ⟨_, rfl⟩ := holds_c.1 h; simp at hb
  | .s e K n ds, v, bs, h, b, hb => by
    obtain ⟨xs, fs, ho, hl, rfl⟩ := holds_s.1 h
    rcases List.mem_append.1 hb with hb | hb
    · rcases ho.2 with ⟨rfl, _⟩ | ⟨g, off, cap, cur, rfl, _, hg, _⟩
      · simp [Value.ownBlock] at hb
      · simp [Value.ownBlock] at hb
        subst hb
        exact ⟨cur, e, by simp [tysD], hg⟩
    · obtain ⟨cur, e', he, hh⟩ := HoldsL.ty ds xs fs hl b hb
      exact ⟨cur, e', by simp [tysD, he], hh⟩
theorem HoldsL.ty {w : World} {B : Nat} : ∀ (ds : List D) (xs : List Value) (bs : List Nat), HoldsL w B ds xs bs → ∀ b ∈ bs, ∃ cur e, e ∈ tysL ds ∧ w.heap[b]? = some (.cells cur e (0, 0))
  | [], xs, bs, h, b, hb => by obtain ⟨_, rfl⟩ := holdsL_nil.1 h; simp at hb
  | d :: ds, xs, bs, h, b, hb => by
    obtain ⟨x, xt, b1, b2, rfl, rfl, h1, h2⟩ := holdsL_cons.1 h
    rcases List.mem_append.1 hb with hb | hb
    · obtain ⟨cur, e, he, hh⟩ := Holds.ty d x b1 h1 b hb
      exact ⟨cur, e, by simp [tysL, he], hh⟩
    · obtain ⟨cur, e, he, hh⟩ := HoldsL.ty ds xt b2 h2 b hb
      exact ⟨cur, e, by simp [tysL, he], hh⟩
end
/-- A row that grows by append: its elements' data, all in memory of this call's own. -/
def RowsOf (w : World) (B e K : Nat) (v : Value) (n : Nat) (ds : List D) : Prop := ∃ xs fs, w.ownsRow B e K v n xs ∧ HoldsL w B ds xs fs ∧ (v.ownBlock.toList ++ fs).Nodup
theorem RowsOf.holds {w : World} {B e K n : Nat} {v : Value} {ds : List D} (h : RowsOf w B e K v n ds) : ∃ bs, Holds w B (.s e K n ds) v bs ∧ bs.Nodup := by
  obtain ⟨xs, fs, ho, hl, hn⟩ := h
  exact ⟨_, holds_s.2 ⟨xs, fs, ownsAt.of_row ho, hl, rfl⟩, hn⟩
theorem row_below {w w' : World} {B e K n : Nat} {v : Value} {xs : List Value} (h : w.ownsRow B e K v n xs) (hb : Below w.heap.size w w') : w'.ownsRow B e K v n xs := by
  refine ⟨h.1, ?_⟩
  rcases h.2 with h0 | ⟨g, cap, cur, hv, hB, hg, hrest⟩
  · exact .inl h0
  · exact .inr ⟨g, cap, cur, hv, hB, by rw [hb.block g (Array.getElem?_eq_some_iff.1 hg).1]; exact hg, hrest⟩
theorem RowsOf.next {w w' : World} {B e K n : Nat} {v : Value} {ds : List D} (h : RowsOf w B e K v n ds) (hb : Below w.heap.size w w') : RowsOf w' B e K v n ds := by
  obtain ⟨xs, fs, ho, hl, hn⟩ := h
  exact ⟨xs, fs, row_below ho hb, HoldsL.frame _ _ _ hl (fun b hm => hb.block b (HoldsL.lt _ _ _ hl b hm).2), hn⟩
theorem RowsOf.nil (w : World) (B e K : Nat) : RowsOf w B e K (.slice none 0 0) 0 [] := ⟨[], [], World.ownsRow_nil w B e K, holdsL_nil.2 ⟨rfl, rfl⟩, by simp [Value.ownBlock]⟩
theorem row_type {w : World} {B e K n g : Nat} {v : Value} {xs : List Value} (h : w.ownsRow B e K v n xs) (hv : v.ownBlock = some g) : ∃ cur, w.heap[g]? = some (.cells cur e (0, 0)) := by
  rcases h.2 with ⟨rfl, _⟩ | ⟨g', cap, cur, rfl, _, hg, _⟩
  · simp [Value.ownBlock] at hv
  · simp [Value.ownBlock] at hv
    subst hv
    exact ⟨cur, hg⟩
/-- Behind an append of one more element. -/
theorem RowsOf.more {w w3 : World} {B e K n m : Nat} {v v' : Value} {ds nds : List D} {xs ns : List Value} {fs fn : List Nat}
    (ho : w.ownsRow B e K v n xs) (hl : HoldsL w B ds xs fs) (hnd : (v.ownBlock.toList ++ fs).Nodup)
    (hn : HoldsL w B nds ns fn) (hfn : fn.Nodup) (hdj : ∀ b ∈ fn, b ∉ v.ownBlock.toList ++ fs)
    (hown : w3.ownsRow B e K v' m (xs ++ ns)) (hg : w.grownBy w3 v.ownBlock) (ht : e ∉ tysL ds) (htn : e ∉ tysL nds) : RowsOf w3 B e K v' m (ds ++ nds) := by
  have hlt := HoldsL.lt _ _ _ hl
  have hltn := HoldsL.lt _ _ _ hn
  have keep : ∀ b ∈ fs ++ fn, w3.heap[b]? = w.heap[b]? := by
    intro b hb
    rcases List.mem_append.1 hb with h | h
    · refine hg.block b (hlt b h).2 (fun e' => ?_)
      rw [← e'] at hnd
      simp only [Option.toList_some, List.singleton_append, List.nodup_cons] at hnd
      exact hnd.1 h
    · refine hg.block b (hltn b h).2 (fun e' => ?_)
      have := hdj b h
      rw [← e'] at this
      simp at this
  refine ⟨xs ++ ns, fs ++ fn, hown, HoldsL.join _ _ _ _ _ _ (HoldsL.frame _ _ _ hl (fun b h => keep b (List.mem_append_left _ h))) (HoldsL.frame _ _ _ hn (fun b h => keep b (List.mem_append_right _ h))), ?_⟩
  rw [List.nodup_append] at hnd ⊢
  refine ⟨by cases v'.ownBlock <;> simp, ?_, ?_⟩
  · rw [List.nodup_append]
    exact ⟨hnd.2.1, hfn, fun a ha b hb e' => by subst e'; exact hdj a hb (List.mem_append_right _ ha)⟩
  · intro g hg' b hb e'
    subst e'
    obtain ⟨cur, hc⟩ := row_type hown (by simpa using hg')
    rw [keep g hb] at hc
    rcases List.mem_append.1 hb with h | h
    · obtain ⟨cur', e2, he, hh⟩ := HoldsL.ty _ _ _ hl g h
      rw [hc] at hh
      cases hh
      exact ht he
    · obtain ⟨cur', e2, he, hh⟩ := HoldsL.ty _ _ _ hn g h
      rw [hc] at hh
      cases hh
      exact htn he
theorem tys_byD : ∀ zs : List Int, tysL (byD zs) = []
  | [] => rfl
  | z :: zs => by show tysD (.c _) ++ tysL (byD zs) = []; rw [tys_byD zs]; rfl
theorem tys_bytes (zs : List Int) : tysD (bytesD zs) = [5] := by unfold bytesD; simp only [tysD, tys_byD]
theorem tys_packet (o : PacketM) : 29 ∉ tysL (dPacket o) := by
  have h : tysL (dPacket o) = tysD (bytesD o.f9) ++ (tysD (bytesD o.f10) ++ []) := rfl
  rw [h, tys_bytes, tys_bytes]
  decide
theorem news_alloc (w : World) (vs : List Value) (t : Nat) : ∀ j u, vs[j]? = some u → (w.alloc (.cells vs.toArray t)).cell? ((⟨w.heap.size, 0, none⟩ : Addr).add j) = some u := by
  intro j u hu
  rw [Addr.add_lit, Nat.zero_add, cell_of_row _ w.heap.size j _ t (0, 0) (heap_alloc_new w _)]
  simpa using hu
mutual
theorem Holds.down {w : World} {B C : Nat} (hC : C ≤ B) : ∀ (d : D) (v : Value) (bs : List Nat), Holds w B d v bs → Holds w C d v bs
  | .c u, v, bs, h => by obtain ⟨h1, h2⟩ := holds_c.1 h; exact holds_c.2 ⟨h1, h2⟩
  | .s e K n ds, v, bs, h => by
    obtain ⟨xs, fs, ho, hl, hb⟩ := holds_s.1 h
    exact holds_s.2 ⟨xs, fs, ho.mono hC, HoldsL.down hC ds xs fs hl, hb⟩
theorem HoldsL.down {w : World} {B C : Nat} (hC : C ≤ B) : ∀ (ds : List D) (xs : List Value) (bs : List Nat), HoldsL w B ds xs bs → HoldsL w C ds xs bs
  | [], xs, bs, h => by obtain ⟨h1, h2⟩ := holdsL_nil.1 h; exact holdsL_nil.2 ⟨h1, h2⟩
  | d :: ds, xs, bs, h => by
    obtain ⟨x, xt, b1, b2, h1, h2, h3, h4⟩ := holdsL_cons.1 h
    exact holdsL_cons.2 ⟨x, xt, b1, b2, h1, h2, Holds.down hC d x b1 h3, HoldsL.down hC ds xt b2 h4⟩
end
end Go.Proofs.Ytednldijgijheaa
