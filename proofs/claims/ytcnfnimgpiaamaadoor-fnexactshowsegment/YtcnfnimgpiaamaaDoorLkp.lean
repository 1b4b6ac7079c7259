/-
Contracts of functions of this seat.
-/
import Derived.Test.YtcnfnimgpiaamaaDoorRows
import Derived.WalkKit
import Derived.ProofKit
import Derived.OpenShut
import Derived.Test.YtcnfnimgpiaamaaDoorDmk
namespace Go.Proofs.YtcnfnimgpiaamaaDoor
open Go.ChangeShapes Go.WideShapes Go.ChangeAt Go.RowKit
set_option linter.unusedVariables false
set_option maxRecDepth 100000
/-- What stays as long as these blocks stay. -/
structure Keep (F : List Nat) (P : World → Prop) (W : World) : Prop where
  here : P W
  lt : ∀ b ∈ F, b < W.heap.size
  frame : ∀ W', (∀ b ∈ F, W'.heap[b]? = W.heap[b]?) → P W'
theorem Keep.move {F : List Nat} {P : World → Prop} {W W' : World} (h : Keep F P W) (hs : W.heap.size ≤ W'.heap.size) (hk : ∀ b ∈ F, W'.heap[b]? = W.heap[b]?) : Keep F P W' :=
  ⟨h.frame W' hk, fun b hb => Nat.lt_of_lt_of_le (h.lt b hb) hs, fun V hv => h.frame V (fun b hb => (hv b hb).trans (hk b hb))⟩
theorem Keep.next {F : List Nat} {P : World → Prop} {W W' : World} (h : Keep F P W) (hb : Below W.heap.size W W') : Keep F P W' :=
  h.move hb.size (fun b hm => hb.block b (h.lt b hm))
theorem Keep.only {F S : List Nat} {P : World → Prop} {W W' : World} (h : Keep F P W) (hb : Only S W W') (hd : ∀ b ∈ F, b ∉ S) : Keep F P W' :=
  h.move hb.size (fun b hm => hb.block b (h.lt b hm) (hd b hm))
theorem Keep.and {F G : List Nat} {P Q : World → Prop} {W : World} (h : Keep F P W) (k : Keep G Q W) : Keep (F ++ G) (fun W => P W ∧ Q W) W :=
  ⟨⟨h.here, k.here⟩, fun b hb => by rcases List.mem_append.1 hb with hb | hb; exact h.lt b hb; exact k.lt b hb, fun V hv => ⟨h.frame V (fun b hb => hv b (List.mem_append_left _ hb)), k.frame V (fun b hb => hv b (List.mem_append_right _ hb))⟩⟩
theorem Keep.obj {W : World} {g : Nat} {o : Obj} (h : W.heap[g]? = some o) : Keep [g] (fun W => W.heap[g]? = some o) W :=
  ⟨h, fun b hb => by rw [List.mem_singleton.1 hb]; exact (Array.getElem?_eq_some_iff.1 h).1, fun V hv => (hv g (by simp)).trans h⟩
theorem Keep.new (W : World) (o : Obj) : Keep [W.heap.size] (fun W' => W'.heap[W.heap.size]? = some o) (W.alloc o) := Keep.obj (heap_alloc_new W o)
theorem Keep.data {W : World} {B : Nat} {ds : List D} {vs : List Value} {bs : List Nat} (h : HoldsL W B ds vs bs) : Keep bs (fun W => HoldsL W B ds vs bs) W :=
  ⟨h, fun b hb => (HoldsL.lt _ _ _ h b hb).2, fun V hv => HoldsL.frame _ _ _ h hv⟩
theorem Keep.nil (W : World) : Keep [] (fun _ => True) W := ⟨trivial, by simp, fun _ _ => trivial⟩
theorem below_on {w W W' : World} (h : Below w.heap.size w W) (hb : Below W.heap.size W W') : Below w.heap.size w W' := h.trans (hb.mono h.size)
theorem below_alloc_on {w W : World} (h : Below w.heap.size w W) (o : Obj) : Below w.heap.size w (W.alloc o) := h.alloc h.size o
theorem below_only {w W W' : World} {S : List Nat} (h : Below w.heap.size w W) (hb : Only S W W') (hS : ∀ b ∈ S, w.heap.size ≤ b) : Below w.heap.size w W' := h.trans (hb.below hS h.size)
theorem Keep.set {F : List Nat} {P : World → Prop} {W : World} (h : Keep F P W) (g i : Nat) (u : Value) (hg : g ∉ F) : Keep F P (W.setCell ⟨g, i, none⟩ u) :=
  h.move (by simp) (fun b hb => heap_setCell_other W ⟨g, i, none⟩ b u (fun e => hg (by rw [← show b = g from e]; exact hb)))
theorem below_set {w W : World} (h : Below w.heap.size w W) (g i : Nat) (u : Value) (hg : w.heap.size ≤ g) : Below w.heap.size w (W.setCell ⟨g, i, none⟩ u) := h.setCell (p := ⟨g, i, none⟩) hg u
theorem holdsL_one {W : World} {B : Nat} {d : D} {v : Value} {f : List Nat} (h : Holds W B d v f) : HoldsL W B [d] [v] (f ++ []) := holdsL_cons.2 ⟨_, _, _, _, rfl, rfl, h, holdsL_nil.2 ⟨rfl, rfl⟩⟩
theorem nodup_left {a b : List Nat} (h : (a ++ b).Nodup) : a.Nodup := (List.nodup_append.1 h).1
theorem nodup_right {a b : List Nat} (h : (a ++ b).Nodup) : b.Nodup := (List.nodup_append.1 h).2.1
theorem nodup_apart {a b : List Nat} (h : (a ++ b).Nodup) : ∀ x ∈ b, x ∉ a := fun x hb ha => (List.nodup_append.1 h).2.2 x ha x hb rfl

/-- The numbers that lie as bytes from a on, whatever they are. -/
def ArrV (w : World) (a : Option Addr) (zs : List Int) : Prop := ∀ j, j < zs.length → ∃ b off, a = some ⟨b, off, none⟩ ∧ b < w.heap.size ∧ w.cell? ⟨b, off + j, none⟩ = some (.int .u8 (zs.getD j 0))
theorem bytes_arrV {w : World} {B : Nat} {zs : List Int} {a : Option Addr} {n cap : Nat} {bs : List Nat} (h : Holds w B (bytesD zs) (.slice a n cap) bs) : ArrV w a zs ∧ zs.length = n ∧ n ≤ cap := by
  rcases Holds.form h with ⟨e, h0, _⟩ | ⟨g, off, cap', e, hB, hg, hc, hl⟩
  · cases e
    exact ⟨fun j hj => by omega, h0, Nat.le_refl _⟩
  · cases e
    exact ⟨fun j hj => ⟨g, off, rfl, hg, Holds.cell h (byD_get zs j hj)⟩, rfl, hc⟩
theorem bytes_read {w : World} {B : Nat} {zs : List Int} {a : Option Addr} {n cap : Nat} {bs : List Nat} (h : Holds w B (bytesD zs) (.slice a n cap) bs) (hz : ∀ z ∈ zs, 0 ≤ z ∧ z ≤ 255) : Arr w a zs ∧ zs.length = n ∧ n ≤ cap :=
  ⟨⟨hz, (bytes_arrV h).1⟩, (bytes_arrV h).2⟩
set_option maxHeartbeats 1000000 in
theorem eqB_v (a b : Option Addr) (n c1 c2 : Nat) (zs : List Int) (w : World) (hn : zs.length = n) (ha : ArrV w a zs) (hb : ArrV w b zs) (hm : n ≤ 1048576) :
    Calls Tryd.prog 15 #[.slice a n c1, .slice b n c2] w fun e w' => e = .returned (.bool true) ∧ Below w.heap.size w w' := by
  have HN := hide hn
  have HA := hide ha
  have HB := hide hb
  clear hn ha hb
  go_enter Tryd.func15, Tryd.ntmps15
  go_wp2_with fail
  go_loopw [5] (fun t w2 => ∃ k : Nat, k ≤ n ∧ t = .int .i64 k ∧ Below w.heap.size w w2) (fun t _ => n - (intOf t).toNat)
  case atStart => exact ⟨0, Nat.zero_le _, rfl, Below.refl _ _⟩
  case round =>
    obtain ⟨k, hk, rfl, hbel⟩ := hrel
    by_cases hlt : k < n
    · obtain ⟨b1, o1, rfl, hb1, hc1⟩ := HA.out k (by rw [HN.out]; exact hlt)
      obtain ⟨b2, o2, rfl, hb2, hc2⟩ := HB.out k (by rw [HN.out]; exact hlt)
      have g1 : wr.cell? ⟨b1, o1 + k, none⟩ = some (.int .u8 (zs.getD k 0)) := by rw [hbel.cell (p := ⟨b1, o1 + k, none⟩) hb1]; exact hc1
      have g2 : wr.cell? ⟨b2, o2 + k, none⟩ = some (.int .u8 (zs.getD k 0)) := by rw [hbel.cell (p := ⟨b2, o2 + k, none⟩) hb2]; exact hc2
      clear hc1 hc2
      generalize zs.getD k 0 = z at g1 g2
      go_wp2
      go_quiet (fail)
      go_wp2
      exact ⟨⟨k + 1, by omega, by go_num, below_drewN hbel nq⟩, by simp [intOf]; omega⟩
    · go_wp2
      go_ret
      exact ⟨rfl, hbel⟩
theorem eqB_d (zs : List Int) (a b : Option Addr) (n c d : Nat) (B1 B2 : Nat) (f1 f2 : List Nat) (w : World) (h1 : Holds w B1 (bytesD zs) (.slice a n c) f1) (h2 : Holds w B2 (bytesD zs) (.slice b n d) f2) (hm : n ≤ 1048576) :
    Calls Tryd.prog 15 #[.slice a n c, .slice b n d] w fun e w' => e = .returned (.bool true) ∧ Below w.heap.size w w' :=
  eqB_v a b n c d zs w (bytes_arrV h1).2.1 (bytes_arrV h1).1 (bytes_arrV h2).1 hm
theorem toB_d (zs : List Int) (a : Option Addr) (n cap : Nat) (w : World) (hn : zs.length = n) (h : Arr w a zs) (hm : n ≤ 1048576) :
    Calls Tryd.prog 13 #[.slice a n cap] w fun e w' => ∃ (a' : Option Addr) (k' : Nat) (f : List Nat), e = .returned (.slice a' n k') ∧ Holds w' w.heap.size (bytesD zs) (.slice a' n k') f ∧ f.Nodup ∧ Below w.heap.size w w' := by
  refine (toByteS_own a n cap zs w hn h hm).mono ?_
  rintro e w' ⟨rfl, hO, hb⟩
  exact ⟨_, _, _, rfl, bytes_own hO, by simp [Value.ownBlock], hb⟩
theorem markB_d (zs : List Int) (a : Option Addr) (n c B : Nat) (bs : List Nat) (k : Nat) (w : World) (h : Holds w B (bytesD zs) (.slice a n c) bs) (hnd : bs.Nodup) (hk : k + n ≤ 1073741824) :
    Calls Tryd.prog 16 #[.slice a n c, .int .i64 (k : Int)] w fun e w' => e = .returned (.int .i64 ((k + n : Nat) : Int)) ∧ Holds w' B (mkD k (bytesD zs)) (.slice a n c) bs ∧ Only bs w w' := by
  have hn := (bytes_arrV h).2.1
  subst hn
  exact markByteS_d zs _ B bs k w h hnd hk
theorem heldB_d (zs : List Int) (a : Option Addr) (n c B : Nat) (bs : List Nat) (k : Nat) (w : World) (hn : zs.length = n) (h : Holds w B (mkD k (bytesD zs)) (.slice a n c) bs) (hk : k + n ≤ 1073741824) :
    Calls Tryd.prog 52 #[.slice a n c, .int .i64 (k : Int)] w fun e w' => e = .returned (.int .i64 ((k + n : Nat) : Int)) ∧ Below w.heap.size w w' := by
  subst hn
  refine (heldByteS_d zs _ B bs k w h hk).mono ?_
  rintro e w' ⟨rfl, rfl⟩
  exact ⟨rfl, Below.refl _ _⟩
theorem own_holds {w : World} {B : Nat} {v : Value} {zs : List Int} (h : OwnB w B v zs) : ∃ (a : Option Addr) (c : Nat), v = .slice a zs.length c ∧ Holds w B (bytesD zs) (.slice a zs.length c) v.ownBlock.toList := by
  obtain ⟨a, c, rfl, _⟩ := own_slice h
  exact ⟨a, c, rfl, bytes_own h⟩
theorem own_nodup (v : Value) : (v.ownBlock.toList).Nodup := by cases v.ownBlock <;> simp
theorem own_apart {u v : Value} (h : ∀ b, u.ownBlock = some b → v.ownBlock ≠ some b) : (u.ownBlock.toList ++ v.ownBlock.toList).Nodup := by
  rw [List.nodup_append]
  refine ⟨own_nodup u, own_nodup v, fun x hx y hy e => ?_⟩
  subst e
  exact h x (by simpa using hx) (by simpa using hy)
end Go.Proofs.YtcnfnimgpiaamaaDoor
