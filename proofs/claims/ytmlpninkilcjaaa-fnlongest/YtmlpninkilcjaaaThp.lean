/-
Contracts of functions of this seat.
-/
import Derived.Test.YtmlpninkilcjaaaRows
import Derived.WalkKit
import Derived.ProofKit
import Derived.OpenShut
import Derived.Test.YtmlpninkilcjaaaArn
namespace Go.Proofs.Ytmlpninkilcjaaa
open Go.ChangeShapes Go.WideShapes Go.ChangeAt Go.RowKit
set_option linter.unusedVariables false
set_option maxRecDepth 100000
abbrev rtT : Nat := 27
/-- The tree's nodes and what hangs on them lie in memory. -/
structure TH (w : World) (B0 : Nat) (rv : Nat → Array Value) (G : Gr) : Prop where
  node : ∀ n r, G n = some r → HoldV w n (nodeV r) ndT ∧ B0 ≤ n
  hang : ∀ n r hb j, G n = some r → r.h = some (hb, j) → HoldV w hb (rv j) rtT ∧ G hb = none ∧ B0 ≤ hb
theorem TH.next {w w' : World} {B0 : Nat} {rv : Nat → Array Value} {G : Gr} (h : TH w B0 rv G) (hb : Below w.heap.size w w') : TH w' B0 rv G :=
  ⟨fun n r hn => ⟨(h.node n r hn).1.next hb, (h.node n r hn).2⟩, fun n r b j hn hh => ⟨(h.hang n r b j hn hh).1.next hb, (h.hang n r b j hn hh).2⟩⟩
theorem TH.fresh {w : World} {B0 : Nat} {rv : Nat → Array Value} {G : Gr} (h : TH w B0 rv G) (n : Nat) (hn : w.heap.size ≤ n) : G n = none := by
  cases e : G n with
  | none => rfl
  | some r => have := (h.node n r e).1.lt; omega
/-- A new node. -/
theorem TH.add {w w' : World} {B0 : Nat} {rv : Nat → Array Value} {G : Gr} (h : TH w B0 rv G) (hb : Below w.heap.size w w') (f : Nat) (r : Rec) (hf : w.heap.size ≤ f) (hB : B0 ≤ w.heap.size) (hh : r.h = none) (hr : HoldV w' f (nodeV r) ndT) : TH w' B0 rv (upG G f r) := by
  refine ⟨fun n rn hn => ?_, fun n rn b j hn hj => ?_⟩
  · by_cases e : n = f
    · subst e; rw [upG_same] at hn; cases hn; exact ⟨hr, by omega⟩
    · rw [upG_other _ _ e] at hn; exact ⟨(h.node n rn hn).1.next hb, (h.node n rn hn).2⟩
  · by_cases e : n = f
    · subst e; rw [upG_same] at hn; cases hn; rw [hh] at hj; cases hj
    · rw [upG_other _ _ e] at hn
      obtain ⟨h1, h2, h3⟩ := h.hang n rn b j hn hj
      exact ⟨h1.next hb, by rw [upG_other _ _ (by have := h1.lt; omega)]; exact h2, h3⟩
/-- A node's cells are put anew. -/
theorem TH.put {w : World} {B0 : Nat} {rv : Nat → Array Value} {G : Gr} {n : Nat} {r : Rec} (h : TH w B0 rv G) (hn : G n = some r) (r' : Rec) (i : Nat) (y : Value) (hr : (nodeV r).setIfInBounds i y = nodeV r')
    (hh : ∀ b j, r'.h = some (b, j) → HoldV w b (rv j) rtT ∧ G b = none ∧ B0 ≤ b) : TH (w.setCell ⟨n, i, none⟩ y) B0 rv (upG G n r') := by
  have key : ∀ b, G b = none → upG G n r' b = none := fun b hb => by rw [upG_other _ _ (fun e => by rw [e, hn] at hb; cases hb)]; exact hb
  refine ⟨fun m rm hm => ?_, fun m rm b j hm hj => ?_⟩
  · by_cases e : m = n
    · subst e
      rw [upG_same] at hm
      cases hm
      have := (h.node m r hn).1.set i y
      rw [hr] at this
      exact ⟨this, (h.node m r hn).2⟩
    · rw [upG_other _ _ e] at hm
      exact ⟨(h.node m rm hm).1.other e i y, (h.node m rm hm).2⟩
  · by_cases e : m = n
    · subst e
      rw [upG_same] at hm
      cases hm
      obtain ⟨h1, h2, h3⟩ := hh b j hj
      exact ⟨h1.other (fun e => by rw [e, hn] at h2; cases h2) i y, key b h2, h3⟩
    · rw [upG_other _ _ e] at hm
      obtain ⟨h1, h2, h3⟩ := h.hang m rm b j hm hj
      exact ⟨h1.other (fun e => by rw [e, hn] at h2; cases h2) i y, key b h2, h3⟩
theorem TH.side {w : World} {B0 : Nat} {rv : Nat → Array Value} {G : Gr} {n : Nat} {r : Rec} (h : TH w B0 rv G) (hn : G n = some r) (k c : Nat) (hk : k < 2) : TH (w.setCell ⟨n, 3 + k, none⟩ (.pointer (some ⟨c, 0, none⟩))) B0 rv (upG G n (r.set k c)) := by
  refine h.put hn _ _ _ ?_ (fun b j hj => h.hang n r b j hn (by rw [Rec.set_h] at hj; exact hj))
  have hk2 : k = 0 ∨ k = 1 := by omega
  rcases hk2 with rfl | rfl
  · rfl
  · rfl
theorem TH.hung {w : World} {B0 : Nat} {rv : Nat → Array Value} {G : Gr} {n : Nat} {r : Rec} (h : TH w B0 rv G) (hn : G n = some r) (b j : Nat) (hb : HoldV w b (rv j) rtT) (h2 : G b = none) (h3 : B0 ≤ b) : TH (w.setCell ⟨n, 2, none⟩ (.pointer (some ⟨b, 0, none⟩))) B0 rv (upG G n (r.hang b j)) := by
  refine h.put hn _ _ _ rfl (fun b' j' hj => ?_)
  cases hj
  exact ⟨hb, h2, h3⟩
/-- What is no node and was there stays. -/
def Kept (W0 W : World) (G G1 : Gr) : Prop := ∀ b, b < W0.heap.size → G b = none → W.heap[b]? = W0.heap[b]? ∧ G1 b = none
theorem Kept.refl (W : World) (G : Gr) : Kept W W G G := fun b _ h => ⟨rfl, h⟩
theorem Kept.next {W0 W W' : World} {G G1 : Gr} (h : Kept W0 W G G1) (hs : W0.heap.size ≤ W.heap.size) (hb : Below W.heap.size W W') : Kept W0 W' G G1 := fun b hl hg => by
  obtain ⟨h1, h2⟩ := h b hl hg
  exact ⟨(hb.block b (by omega)).trans h1, h2⟩
theorem Kept.up {W0 W : World} {G G1 : Gr} (h : Kept W0 W G G1) (n : Nat) (r : Rec) (hn : W0.heap.size ≤ n ∨ ∃ r0, G1 n = some r0) : Kept W0 W G (upG G1 n r) := fun b hl hg => by
  obtain ⟨h1, h2⟩ := h b hl hg
  refine ⟨h1, ?_⟩
  rw [upG_other _ _ (fun e => ?_)]
  · exact h2
  · rcases hn with hn | ⟨r0, hn⟩
    · omega
    · rw [e, hn] at h2; cases h2
theorem Kept.set {W0 W : World} {G G1 : Gr} (h : Kept W0 W G G1) (n i : Nat) (y : Value) (hn : ∃ r0, G1 n = some r0) : Kept W0 (W.setCell ⟨n, i, none⟩ y) G G1 := fun b hl hg => by
  obtain ⟨h1, h2⟩ := h b hl hg
  refine ⟨?_, h2⟩
  rw [heap_setCell_other _ ⟨n, i, none⟩ b y (fun e => ?_)]
  · exact h1
  · obtain ⟨r0, hn⟩ := hn
    have : b = n := e
    rw [this, hn] at h2; cases h2
/-- On the way to a prefix. -/
structure RI (W0 W : World) (B0 root : Nat) (rv : Nat → Array Value) (f : Nat → Nat → Option Nat) (G G1 : Gr) (pa pb n : Nat) (r : Rec) : Prop where
  ok : TrOk G1 root
  hung : Hung G1 root f
  th : TH W B0 rv G1
  at_ : G1 n = some r
  le : r.b ≤ pb
  top : topB pa r.b = topB r.a r.b
  below : Below B0 W0 W
  kept : Kept W0 W G G1
  base : B0 ≤ W0.heap.size
theorem RI.drewN {W0 W : World} {B0 root : Nat} {rv : Nat → Array Value} {f : Nat → Nat → Option Nat} {G G1 : Gr} {pa pb n : Nat} {r : Rec} (h : RI W0 W B0 root rv f G G1 pa pb n r) (m : Nat) : RI W0 (W.drewN m) B0 root rv f G G1 pa pb n r :=
  ⟨h.ok, h.hung, h.th.next (below_drewN (Below.refl _ _) m), h.at_, h.le, h.top, below_drewN h.below m, h.kept.next (by have := h.below.size; exact this) (below_drewN (Below.refl _ _) m), h.base⟩
theorem RI.next {W0 W W' : World} {B0 root : Nat} {rv : Nat → Array Value} {f : Nat → Nat → Option Nat} {G G1 : Gr} {pa pb n : Nat} {r : Rec} (h : RI W0 W B0 root rv f G G1 pa pb n r) (hb : Below W.heap.size W W') : RI W0 W' B0 root rv f G G1 pa pb n r :=
  ⟨h.ok, h.hung, h.th.next hb, h.at_, h.le, h.top, h.below.trans (hb.mono (Nat.le_trans h.base h.below.size)), h.kept.next h.below.size hb, h.base⟩
/-- A new leaf is hung below the node. -/
theorem RI.leaf {W0 W : World} {B0 root : Nat} {rv : Nat → Array Value} {f : Nat → Nat → Option Nat} {G G1 : Gr} {pa pb n : Nat} {r : Rec} (h : RI W0 W B0 root rv f G G1 pa pb n r) (hp : vP pa pb) (hlt : r.b < pb) (k : Nat) (hk : bitB pa r.b = k) (hs : r.sd k = none) :
    RI W0 ((W.alloc (.cells (nodeV ⟨pa, pb, none, none, none⟩) ndT)).setCell ⟨n, 3 + k, none⟩ (.pointer (some ⟨W.heap.size, 0, none⟩))) B0 root rv f G (leafG G1 n r k W.heap.size pa pb) pa pb n (r.set k W.heap.size) := by
  have hk2 : k < 2 := by rw [← hk]; exact bitB_lt _ _
  have hc := h.th.fresh W.heap.size (Nat.le_refl _)
  have hB : B0 ≤ W.heap.size := Nat.le_trans h.base h.below.size
  have hb := (Below.refl W.heap.size W).alloc (Nat.le_refl _) (.cells (nodeV ⟨pa, pb, none, none, none⟩) ndT)
  have hn : upG G1 W.heap.size ⟨pa, pb, none, none, none⟩ n = some r := by rw [upG_other _ _ (fun e => by have := h.at_; rw [e, hc] at this; cases this)]; exact h.at_
  have t1 := h.th.add hb W.heap.size ⟨pa, pb, none, none, none⟩ (Nat.le_refl _) hB rfl (HoldV.new _ _ _)
  have hnB := (h.th.node n r h.at_).2
  refine ⟨leaf_ok h.ok hk2 h.at_ hs hc hp hlt h.top hk, leaf_hung h.hung hk2 h.at_ hs hc, t1.side hn k W.heap.size hk2, leafG_n _ _ _ _ _ _ _, by rw [Rec.set_b]; exact h.le, by rw [Rec.set_b, Rec.set_a]; exact h.top, ?_, ?_, h.base⟩
  · exact (h.below.trans (hb.mono hB)).setCell (p := ⟨n, 3 + k, none⟩) hnB _
  · exact (((h.kept.next h.below.size hb).up W.heap.size _ (.inl h.below.size)).set n _ _ ⟨r, hn⟩).up n _ (.inr ⟨r, hn⟩)
/-- The way goes on below the node: what lies there has the prefix. -/
theorem RI.down {W0 W : World} {B0 root : Nat} {rv : Nat → Array Value} {f : Nat → Nat → Option Nat} {G G1 : Gr} {pa pb n c : Nat} {r rc : Rec} (h : RI W0 W B0 root rv f G G1 pa pb n r) (k : Nat) (hk2 : k < 2) (hs : r.sd k = some c) (hc : G1 c = some rc) (hle : rc.b ≤ pb) (ht : topB rc.a rc.b = topB pa rc.b) :
    RI W0 (W.setCell ⟨n, 3 + k, none⟩ (.pointer (some ⟨c, 0, none⟩))) B0 root rv f G G1 pa pb c rc := by
  have e : upG G1 n (r.set k c) = G1 := by
    funext m
    by_cases e : m = n
    · subst e
      rw [upG_same, h.at_]
      congr 1
      unfold Rec.set
      unfold Rec.sd at hs
      split
      · rename_i h0; rw [if_pos h0] at hs; rw [← hs]
      · rename_i h0; rw [if_neg h0] at hs; rw [← hs]
    · rw [upG_other _ _ e]
  have t := h.th.side h.at_ k c hk2
  rw [e] at t
  have hnB := (h.th.node n r h.at_).2
  exact ⟨h.ok, h.hung, t, hc, hle, ht.symm, h.below.setCell (p := ⟨n, 3 + k, none⟩) hnB _, h.kept.set n _ _ ⟨r, h.at_⟩, h.base⟩
theorem RI.fork_lt {W0 W : World} {B0 root : Nat} {rv : Nat → Array Value} {f : Nat → Nat → Option Nat} {G G1 : Gr} {pa pb n c m : Nat} {r rc : Rec} (h : RI W0 W B0 root rv f G G1 pa pb n r) (k : Nat) (hp : vP pa pb) (hlt : r.b < pb) (hk : bitB pa r.b = k) (hs : r.sd k = some c) (hc : G1 c = some rc)
    (hd : m < pb → bitB rc.a m ≠ bitB pa m) : r.b < m := by
  have hk2 : k < 2 := by rw [← hk]; exact bitB_lt _ _
  obtain ⟨rc0, q1, q2, q3, q4⟩ := h.ok.kid _ _ h.at_ _ hk2 _ hs
  rw [hc] at q1
  cases q1
  apply Nat.lt_of_not_le
  intro hle
  have e1 : topB rc.a (r.b + 1) = topB pa (r.b + 1) := by
    rw [topB_succ _ _ (by have := hp.1; omega), topB_succ _ _ (by have := hp.1; omega), q3, q4, h.top, hk]
  have hmb : m < pb := by omega
  exact hd hmb (bitB_same (show m < r.b + 1 by omega) (by have := hp.1; omega) e1)
/-- The way goes on at a fork. -/
theorem RI.fork {W0 W W' : World} {B0 root : Nat} {rv : Nat → Array Value} {f : Nat → Nat → Option Nat} {G G1 : Gr} {pa pb n c F m : Nat} {r rc : Rec} (h : RI W0 W B0 root rv f G G1 pa pb n r) (k : Nat) (hp : vP pa pb) (hlt : r.b < pb) (hk : bitB pa r.b = k) (hs : r.sd k = some c) (hc : G1 c = some rc)
    (hm1 : m < rc.b) (hm2 : m ≤ pb) (ht : topB rc.a m = topB pa m) (hd : m < pb → bitB rc.a m ≠ bitB pa m) (hF : W.heap.size ≤ F) (hb : Below W.heap.size W W') (hH : HoldV W' F (nodeV (forkR (mskN rc.a m) m (bitB rc.a m) c)) ndT) :
    RI W0 (W'.setCell ⟨n, 3 + k, none⟩ (.pointer (some ⟨F, 0, none⟩))) B0 root rv f G (forkG G1 n r k F (mskN rc.a m) m (bitB rc.a m) c) pa pb F (forkR (mskN rc.a m) m (bitB rc.a m) c) := by
  have hk2 : k < 2 := by rw [← hk]; exact bitB_lt _ _
  obtain ⟨rc0, q1, q2, q3, q4⟩ := h.ok.kid _ _ h.at_ _ hk2 _ hs
  rw [hc] at q1
  cases q1
  have hvc := h.ok.val _ _ hc
  have hF0 : G1 F = none := h.th.fresh F hF
  have hB : B0 ≤ W.heap.size := Nat.le_trans h.base h.below.size
  have hmr : r.b < m := by
    apply Nat.lt_of_not_le
    intro hle
    have e1 : topB rc.a (r.b + 1) = topB pa (r.b + 1) := by
      rw [topB_succ _ _ (by have := hp.1; omega), topB_succ _ _ (by have := hp.1; omega), q3, q4, h.top, hk]
    have hmb : m < pb := by omega
    exact hd hmb (bitB_same (show m < r.b + 1 by omega) (by have := hp.1; omega) e1)
  have FA : ForkAt G1 n r k F (mskN rc.a m) m c rc := ⟨hk2, h.at_, hs, hc, hF0, mskN_vP _ _ hvc.2.1 (by have := hvc.1; omega), hmr, hm1, mskN_top _ _⟩
  have t1 := h.th.add hb F _ hF hB (forkR_h _ _ _ _) hH
  have hFn : F ≠ n := fun e => by rw [e, h.at_] at hF0; cases hF0
  have hn : upG G1 F (forkR (mskN rc.a m) m (bitB rc.a m) c) n = some r := by rw [upG_other _ _ (fun e => hFn e.symm)]; exact h.at_
  have hnB := (h.th.node n r h.at_).2
  refine ⟨fork_ok h.ok FA, fork_hung h.ok h.hung FA, t1.side hn k F hk2, forkG_f _ _ _ _ _ _ _ _ _ hFn, by rw [forkR_b]; exact hm2, by rw [forkR_a, forkR_b, mskN_top]; exact ht.symm, ?_, ?_, h.base⟩
  · exact (h.below.trans (hb.mono hB)).setCell (p := ⟨n, 3 + k, none⟩) hnB _
  · exact (((h.kept.next h.below.size hb).up F _ (.inl (Nat.le_trans h.below.size hF))).set n _ _ ⟨r, hn⟩).up n _ (.inr ⟨r, hn⟩)
end Go.Proofs.Ytmlpninkilcjaaa
