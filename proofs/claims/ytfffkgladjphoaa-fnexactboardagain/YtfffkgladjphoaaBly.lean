/-
Contracts of functions of this seat.
-/
import Derived.Test.YtfffkgladjphoaaRows
import Derived.WalkKit
import Derived.ProofKit
import Derived.OpenShut
import Derived.Test.YtfffkgladjphoaaBpi
import Derived.Deep.RegionHeld3
import Derived.Lib.QuietBelow
import Derived.Deep.RegionWith
namespace Go.Proofs.Ytfffkgladjphoaa
open Go.ChangeShapes Go.WideShapes Go.ChangeAt Go.RowKit
set_option linter.unusedVariables false
set_option maxRecDepth 100000
/-- What stays as long as these blocks stay. -/
structure Keep (F : List Nat) (P : World → Prop) (W : World) : Prop where
  here : P W
  lt : ∀ b ∈ F, b < W.heap.size
  frame : ∀ W', (∀ b ∈ F, W'.heap[b]? = W.heap[b]?) → P W'
theorem Keep.move {F : List Nat} {P : World → Prop} {W W' : World} (h : Keep F P W) (hs : W.heap.size ≤ W'.heap.size) (hk : ∀ b ∈ F, W'.heap[b]? = W.heap[b]?) : Keep F P W' :=
  ⟨h.frame W' hk, fun b hb => Nat.lt_of_lt_of_le (h.lt b hb) hs, fun V hv => h.frame V (fun b hb => (hv b hb).trans (hk b hb))⟩
theorem Keep.next {F : List Nat} {P : World → Prop} {W W' : World} (h : Keep F P W) (hb : Below W.heap.size W W') : Keep F P W' :=
  h.move hb.size (fun b hm => hb.block b (h.lt b hm))
theorem Keep.only {F S : List Nat} {P : World → Prop} {W W' : World} (h : Keep F P W) (hb : Only S W W') (hd : ∀ b ∈ F, b ∉ S) : Keep F P W' :=
  h.move hb.size (fun b hm => hb.block b (h.lt b hm) (hd b hm))
theorem Keep.and {F G : List Nat} {P Q : World → Prop} {W : World} (h : Keep F P W) (k : Keep G Q W) : Keep (F ++ G) (fun W => P W ∧ Q W) W :=
  ⟨⟨h.here, k.here⟩, fun b hb => by rcases List.mem_append.1 hb with hb | hb; exact h.lt b hb; exact k.lt b hb, fun V hv => ⟨h.frame V (fun b hb => hv b (List.mem_append_left _ hb)), k.frame V (fun b hb => hv b (List.mem_append_right _ hb))⟩⟩
theorem Keep.obj {W : World} {g : Nat} {o : Obj} (h : W.heap[g]? = some o) : Keep [g] (fun W => W.heap[g]? = some o) W :=
  ⟨h, fun b hb => by rw [List.mem_singleton.1 hb]; exact (Array.getElem?_eq_some_iff.1 h).1, fun V hv => (hv g (by simp)).trans h⟩
theorem Keep.new (W : World) (o : Obj) : Keep [W.heap.size] (fun W' => W'.heap[W.heap.size]? = some o) (W.alloc o) := Keep.obj (heap_alloc_new W o)
theorem Keep.data {W : World} {B : Nat} {ds : List D} {vs : List Value} {bs : List Nat} (h : HoldsL W B ds vs bs) : Keep bs (fun W => HoldsL W B ds vs bs) W :=
  ⟨h, fun b hb => (HoldsL.lt _ _ _ h b hb).2, fun V hv => HoldsL.frame _ _ _ h hv⟩
theorem Keep.nil (W : World) : Keep [] (fun _ => True) W := ⟨trivial, by simp, fun _ _ => trivial⟩
theorem below_on {w W W' : World} (h : Below w.heap.size w W) (hb : Below W.heap.size W W') : Below w.heap.size w W' := h.trans (hb.mono h.size)
theorem below_alloc_on {w W : World} (h : Below w.heap.size w W) (o : Obj) : Below w.heap.size w (W.alloc o) := h.alloc h.size o
theorem below_only {w W W' : World} {S : List Nat} (h : Below w.heap.size w W) (hb : Only S W W') (hS : ∀ b ∈ S, w.heap.size ≤ b) : Below w.heap.size w W' := h.trans (hb.below hS h.size)
theorem Keep.set {F : List Nat} {P : World → Prop} {W : World} (h : Keep F P W) (g i : Nat) (u : Value) (hg : g ∉ F) : Keep F P (W.setCell ⟨g, i, none⟩ u) :=
  h.move (by simp) (fun b hb => heap_setCell_other W ⟨g, i, none⟩ b u (fun e => hg (by rw [← show b = g from e]; exact hb)))
theorem below_set {w W : World} (h : Below w.heap.size w W) (g i : Nat) (u : Value) (hg : w.heap.size ≤ g) : Below w.heap.size w (W.setCell ⟨g, i, none⟩ u) := h.setCell (p := ⟨g, i, none⟩) hg u
theorem holdsL_one {W : World} {B : Nat} {d : D} {v : Value} {f : List Nat} (h : Holds W B d v f) : HoldsL W B [d] [v] (f ++ []) := holdsL_cons.2 ⟨_, _, _, _, rfl, rfl, h, holdsL_nil.2 ⟨rfl, rfl⟩⟩
theorem nodup_left {a b : List Nat} (h : (a ++ b).Nodup) : a.Nodup := (List.nodup_append.1 h).1
theorem nodup_right {a b : List Nat} (h : (a ++ b).Nodup) : b.Nodup := (List.nodup_append.1 h).2.1
theorem nodup_apart {a b : List Nat} (h : (a ++ b).Nodup) : ∀ x ∈ b, x ∉ a := fun x hb ha => (List.nodup_append.1 h).2.2 x ha x hb rfl

set_option maxHeartbeats 4000000 in
theorem eqBoard_d (w : World) (x0 : Int) (x1 : Int) (a0 : Option Addr) (n0 c0 : Nat) (b0 : Option Addr) (d0 : Nat) (hf0 : ∀ (W : World), Below w.heap.size w W → Calls Try.prog 22 #[.slice a0 n0 c0, .slice b0 n0 d0] W fun e w' => e = .returned (.bool true) ∧ Below W.heap.size W w') :
    Calls Try.prog 9 #[.agg #[.int .i64 x0, .int .i64 x1, .slice a0 n0 c0], .agg #[.int .i64 x0, .int .i64 x1, .slice b0 n0 d0]] w fun e w' => e = .returned (.bool true) ∧ Below w.heap.size w w' := by
  have HF0 := hide hf0
  clear hf0
  have HW := hide (TwoB.start w (.cells #[.int .i64 x0, .int .i64 x1, .slice a0 n0 c0] 28) (.cells #[.int .i64 x0, .int .i64 x1, .slice b0 n0 d0] 28))
  have fc0 : ((w.alloc (.cells #[.int .i64 x0, .int .i64 x1, .slice a0 n0 c0] 28)).alloc (.cells #[.int .i64 x0, .int .i64 x1, .slice b0 n0 d0] 28)).cell? ⟨w.heap.size, 0, none⟩ = some (.int .i64 x0) := cell_of_row _ _ 0 _ _ _ HW.out.2.1
  have fc1 : ((w.alloc (.cells #[.int .i64 x0, .int .i64 x1, .slice a0 n0 c0] 28)).alloc (.cells #[.int .i64 x0, .int .i64 x1, .slice b0 n0 d0] 28)).cell? ⟨w.heap.size, 1, none⟩ = some (.int .i64 x1) := cell_of_row _ _ 1 _ _ _ HW.out.2.1
  have fc2 : ((w.alloc (.cells #[.int .i64 x0, .int .i64 x1, .slice a0 n0 c0] 28)).alloc (.cells #[.int .i64 x0, .int .i64 x1, .slice b0 n0 d0] 28)).cell? ⟨w.heap.size, 2, none⟩ = some (.slice a0 n0 c0) := cell_of_row _ _ 2 _ _ _ HW.out.2.1
  have fe0 : ((w.alloc (.cells #[.int .i64 x0, .int .i64 x1, .slice a0 n0 c0] 28)).alloc (.cells #[.int .i64 x0, .int .i64 x1, .slice b0 n0 d0] 28)).cell? ⟨w.heap.size + 1, 0, none⟩ = some (.int .i64 x0) := cell_of_row _ _ 0 _ _ _ HW.out.2.2
  have fe1 : ((w.alloc (.cells #[.int .i64 x0, .int .i64 x1, .slice a0 n0 c0] 28)).alloc (.cells #[.int .i64 x0, .int .i64 x1, .slice b0 n0 d0] 28)).cell? ⟨w.heap.size + 1, 1, none⟩ = some (.int .i64 x1) := cell_of_row _ _ 1 _ _ _ HW.out.2.2
  have fe2 : ((w.alloc (.cells #[.int .i64 x0, .int .i64 x1, .slice a0 n0 c0] 28)).alloc (.cells #[.int .i64 x0, .int .i64 x1, .slice b0 n0 d0] 28)).cell? ⟨w.heap.size + 1, 2, none⟩ = some (.slice b0 n0 d0) := cell_of_row _ _ 2 _ _ _ HW.out.2.2
  go_enter Try.func9, Try.ntmps9
  go_wp2_with fail
  generalize (w.alloc (.cells #[.int .i64 x0, .int .i64 x1, .slice a0 n0 c0] 28)).alloc (.cells #[.int .i64 x0, .int .i64 x1, .slice b0 n0 d0] 28) = W at *
  clear fc0 fe0 fc1 fe1 fc2 fe2
  refine (HF0.out _ HW.out.1.1).mono ?_
  rintro e w1 ⟨rfl, hb⟩
  replace HW := hide (HW.out.next hb)
  clear hb
  have fc0 : (w1).cell? ⟨w.heap.size, 0, none⟩ = some (.int .i64 x0) := cell_of_row _ _ 0 _ _ _ HW.out.2.1
  have fc1 : (w1).cell? ⟨w.heap.size, 1, none⟩ = some (.int .i64 x1) := cell_of_row _ _ 1 _ _ _ HW.out.2.1
  have fc2 : (w1).cell? ⟨w.heap.size, 2, none⟩ = some (.slice a0 n0 c0) := cell_of_row _ _ 2 _ _ _ HW.out.2.1
  have fe0 : (w1).cell? ⟨w.heap.size + 1, 0, none⟩ = some (.int .i64 x0) := cell_of_row _ _ 0 _ _ _ HW.out.2.2
  have fe1 : (w1).cell? ⟨w.heap.size + 1, 1, none⟩ = some (.int .i64 x1) := cell_of_row _ _ 1 _ _ _ HW.out.2.2
  have fe2 : (w1).cell? ⟨w.heap.size + 1, 2, none⟩ = some (.slice b0 n0 d0) := cell_of_row _ _ 2 _ _ _ HW.out.2.2
  go_wp2_with fail
  go_ret
  exact ⟨rfl, HW.out.1.1⟩
set_option maxHeartbeats 4000000 in
theorem markBoard_d (w : World) (x0 : Int) (x1 : Int) (a0 : Option Addr) (n0 c0 : Nat) (d0 m0 : D) (K0 K1 : Int) (B : Nat) (bs : List Nat) (hf0 : ∀ (W : World) (f : List Nat), Holds W B d0 (.slice a0 n0 c0) f → f.Nodup → Calls Try.prog 23 #[.slice a0 n0 c0, .int .i64 K0] W fun e w' => e = .returned (.int .i64 K1) ∧ Holds w' B m0 (.slice a0 n0 c0) f ∧ Only f W w') (h : HoldsL w B [d0] [.slice a0 n0 c0] bs) (hnd : bs.Nodup) :
    Calls Try.prog 10 #[.agg #[.int .i64 x0, .int .i64 x1, .slice a0 n0 c0], .int .i64 K0] w fun e w' => e = .returned (.int .i64 K1) ∧ HoldsL w' B [m0] [.slice a0 n0 c0] bs ∧ Only bs w w' := by
  obtain ⟨_, _, f0, g0, e0, rfl, h0, r0⟩ := holdsL_cons.1 h
  cases e0
  obtain ⟨_, rfl⟩ := holdsL_nil.1 r0
  have HF0 := hide hf0
  clear hf0
  have hal := (Below.refl w.heap.size w).alloc (Nat.le_refl _) (.cells #[.int .i64 x0, .int .i64 x1, .slice a0 n0 c0] 28)
  have HR := hide (Only.of_below (S := f0 ++ []) hal)
  have HX := hide (Keep.new w (.cells #[.int .i64 x0, .int .i64 x1, .slice a0 n0 c0] 28))
  have HD0 := hide (Keep.data (holdsL_one h0))
  have HL0 := hide (fun b hb => (Holds.lt _ _ _ h0 b hb).2)
  replace HD0 := hide (HD0.out.next hal)
  have HN := hide hnd
  clear hal h hnd h0 r0
  have fc0 : (w.alloc (.cells #[.int .i64 x0, .int .i64 x1, .slice a0 n0 c0] 28)).cell? ⟨w.heap.size, 0, none⟩ = some (.int .i64 x0) := cell_of_row _ _ 0 _ _ _ HX.out.here
  have fc1 : (w.alloc (.cells #[.int .i64 x0, .int .i64 x1, .slice a0 n0 c0] 28)).cell? ⟨w.heap.size, 1, none⟩ = some (.int .i64 x1) := cell_of_row _ _ 1 _ _ _ HX.out.here
  have fc2 : (w.alloc (.cells #[.int .i64 x0, .int .i64 x1, .slice a0 n0 c0] 28)).cell? ⟨w.heap.size, 2, none⟩ = some (.slice a0 n0 c0) := cell_of_row _ _ 2 _ _ _ HX.out.here
  go_enter Try.func10, Try.ntmps10
  go_wp2_with fail
  generalize w.alloc (.cells #[.int .i64 x0, .int .i64 x1, .slice a0 n0 c0] 28) = W at *
  clear fc0 fc1 fc2
  obtain ⟨_, _, _, _, ee, eb, hh, hr⟩ := holdsL_cons.1 HD0.out.here
  cases ee
  obtain ⟨_, rfl⟩ := holdsL_nil.1 hr
  rw [List.append_nil, List.append_nil] at eb
  subst eb
  refine (HF0.out _ _ hh (nodup_left HN.out)).mono ?_
  rintro e w1 ⟨rfl, hm, hon⟩
  clear hh hr
  replace HX := hide (HX.out.only hon (fun b hb hc => by have h1 := List.mem_singleton.1 hb; have h2 := HL0.out b hc; omega))
  replace HD0 := hide (Keep.data (holdsL_one hm))
  replace HR := hide (HR.out.trans (hon.mono (fun b hb => by simp [hb])))
  clear hm hon
  have fc0 : (w1).cell? ⟨w.heap.size, 0, none⟩ = some (.int .i64 x0) := cell_of_row _ _ 0 _ _ _ HX.out.here
  have fc1 : (w1).cell? ⟨w.heap.size, 1, none⟩ = some (.int .i64 x1) := cell_of_row _ _ 1 _ _ _ HX.out.here
  have fc2 : (w1).cell? ⟨w.heap.size, 2, none⟩ = some (.slice a0 n0 c0) := cell_of_row _ _ 2 _ _ _ HX.out.here
  go_wp2_with fail
  go_ret
  obtain ⟨_, _, _, _, ee, eb, hh0, hr⟩ := holdsL_cons.1 HD0.out.here
  cases ee
  obtain ⟨_, rfl⟩ := holdsL_nil.1 hr
  rw [List.append_nil, List.append_nil] at eb
  subst eb
  exact ⟨rfl, holdsL_cons.2 ⟨_, _, _, _, rfl, rfl, hh0, holdsL_nil.2 ⟨rfl, rfl⟩⟩, HR.out⟩
set_option maxHeartbeats 4000000 in
theorem heldBoard_d (w : World) (x0 : Int) (x1 : Int) (a0 : Option Addr) (n0 c0 : Nat) (m0 : D) (K0 K1 : Int) (B : Nat) (bs : List Nat) (hk1 : 0 ≤ K1) (hf0 : ∀ (W : World) (f : List Nat), Holds W B m0 (.slice a0 n0 c0) f → Calls Try.prog 24 #[.slice a0 n0 c0, .int .i64 K0] W fun e w' => e = .returned (.int .i64 K1) ∧ Below W.heap.size W w') (h : HoldsL w B [m0] [.slice a0 n0 c0] bs) :
    Calls Try.prog 11 #[.agg #[.int .i64 x0, .int .i64 x1, .slice a0 n0 c0], .int .i64 K0] w fun e w' => e = .returned (.int .i64 K1) ∧ Below w.heap.size w w' := by
  obtain ⟨_, _, f0, g0, e0, rfl, h0, r0⟩ := holdsL_cons.1 h
  cases e0
  have HF0 := hide hf0
  clear hf0
  have hal := (Below.refl w.heap.size w).alloc (Nat.le_refl _) (.cells #[.int .i64 x0, .int .i64 x1, .slice a0 n0 c0] 28)
  have HW := hide hal
  have HX := hide (Keep.new w (.cells #[.int .i64 x0, .int .i64 x1, .slice a0 n0 c0] 28))
  have HD0 := hide (Holds.next h0 hal)
  clear hal h h0 r0
  have fc0 : (w.alloc (.cells #[.int .i64 x0, .int .i64 x1, .slice a0 n0 c0] 28)).cell? ⟨w.heap.size, 0, none⟩ = some (.int .i64 x0) := cell_of_row _ _ 0 _ _ _ HX.out.here
  have fc1 : (w.alloc (.cells #[.int .i64 x0, .int .i64 x1, .slice a0 n0 c0] 28)).cell? ⟨w.heap.size, 1, none⟩ = some (.int .i64 x1) := cell_of_row _ _ 1 _ _ _ HX.out.here
  have fc2 : (w.alloc (.cells #[.int .i64 x0, .int .i64 x1, .slice a0 n0 c0] 28)).cell? ⟨w.heap.size, 2, none⟩ = some (.slice a0 n0 c0) := cell_of_row _ _ 2 _ _ _ HX.out.here
  go_enter Try.func11, Try.ntmps11
  go_wp2_with fail
  generalize w.alloc (.cells #[.int .i64 x0, .int .i64 x1, .slice a0 n0 c0] 28) = W at *
  clear fc0 fc1 fc2
  refine (HF0.out _ _ HD0.out).mono ?_
  rintro e w1 ⟨rfl, hb⟩
  replace HX := hide (HX.out.next hb)
  replace HW := hide (below_on HW.out hb)
  replace HD0 := hide (Holds.next HD0.out hb)
  clear hb
  have fc0 : (w1).cell? ⟨w.heap.size, 0, none⟩ = some (.int .i64 x0) := cell_of_row _ _ 0 _ _ _ HX.out.here
  have fc1 : (w1).cell? ⟨w.heap.size, 1, none⟩ = some (.int .i64 x1) := cell_of_row _ _ 1 _ _ _ HX.out.here
  have fc2 : (w1).cell? ⟨w.heap.size, 2, none⟩ = some (.slice a0 n0 c0) := cell_of_row _ _ 2 _ _ _ HX.out.here
  go_wp2_with fail
  go_ret
  exact ⟨rfl, HW.out⟩
set_option maxHeartbeats 4000000 in
theorem szBoard_d (w : World) (x0 : Int) (x1 : Int) (a0 : Option Addr) (n0 c0 : Nat) (L0 L1 : Int) (hl1 : 0 ≤ L1) (hf0 : ∀ (W : World), Calls Try.prog 15 #[.slice a0 n0 c0, .int .i64 L0] W fun e w' => e = .returned (.int .i64 L1) ∧ Below W.heap.size W w') :
    Calls Try.prog 5 #[.agg #[.int .i64 x0, .int .i64 x1, .slice a0 n0 c0], .int .i64 L0] w fun e w' => e = .returned (.int .i64 L1) ∧ Below w.heap.size w w' := by
  have HF0 := hide hf0
  clear hf0
  have HW := hide ((Below.refl w.heap.size w).alloc (Nat.le_refl _) (.cells #[.int .i64 x0, .int .i64 x1, .slice a0 n0 c0] 24))
  have HX := hide (Keep.new w (.cells #[.int .i64 x0, .int .i64 x1, .slice a0 n0 c0] 24))
  have fc0 : (w.alloc (.cells #[.int .i64 x0, .int .i64 x1, .slice a0 n0 c0] 24)).cell? ⟨w.heap.size, 0, none⟩ = some (.int .i64 x0) := cell_of_row _ _ 0 _ _ _ HX.out.here
  have fc1 : (w.alloc (.cells #[.int .i64 x0, .int .i64 x1, .slice a0 n0 c0] 24)).cell? ⟨w.heap.size, 1, none⟩ = some (.int .i64 x1) := cell_of_row _ _ 1 _ _ _ HX.out.here
  have fc2 : (w.alloc (.cells #[.int .i64 x0, .int .i64 x1, .slice a0 n0 c0] 24)).cell? ⟨w.heap.size, 2, none⟩ = some (.slice a0 n0 c0) := cell_of_row _ _ 2 _ _ _ HX.out.here
  go_enter Try.func5, Try.ntmps5
  go_wp2_with fail
  generalize w.alloc (.cells #[.int .i64 x0, .int .i64 x1, .slice a0 n0 c0] 24) = W at *
  clear fc0 fc1 fc2
  refine (HF0.out _).mono ?_
  rintro e w1 ⟨rfl, hb⟩
  replace HX := hide (HX.out.next hb)
  replace HW := hide (below_on HW.out hb)
  clear hb
  have fc0 : (w1).cell? ⟨w.heap.size, 0, none⟩ = some (.int .i64 x0) := cell_of_row _ _ 0 _ _ _ HX.out.here
  have fc1 : (w1).cell? ⟨w.heap.size, 1, none⟩ = some (.int .i64 x1) := cell_of_row _ _ 1 _ _ _ HX.out.here
  have fc2 : (w1).cell? ⟨w.heap.size, 2, none⟩ = some (.slice a0 n0 c0) := cell_of_row _ _ 2 _ _ _ HX.out.here
  go_wp2_with fail
  go_ret
  exact ⟨rfl, HW.out⟩
set_option maxHeartbeats 4000000 in
theorem toBoard_d (w : World) (x0 : Int) (x1 : Int) (a0 : Option Addr) (n0 c0 : Nat) (d0 : D) (hf0 : ∀ (W : World), Below w.heap.size w W → Calls Try.prog 18 #[.slice a0 n0 c0] W fun e w' => ∃ (a' : Option Addr) (k' : Nat) (f : List Nat), e = .returned (.slice a' n0 k') ∧ Holds w' W.heap.size d0 (.slice a' n0 k') f ∧ f.Nodup ∧ Below W.heap.size W w') :
    Calls Try.prog 7 #[.agg #[.int .i64 x0, .int .i64 x1, .slice a0 n0 c0]] w fun e w' => ∃ (b0 : Option Addr) (k0 : Nat) (bs : List Nat), e = .returned (.agg #[.int .i64 x0, .int .i64 x1, .slice b0 n0 k0]) ∧ HoldsL w' w.heap.size [d0] [.slice b0 n0 k0] bs ∧ bs.Nodup ∧ Below w.heap.size w w' := by
  have HF0 := hide hf0
  clear hf0
  have HT := hide (Three.start w (.cells #[.int .i64 x0, .int .i64 x1, .slice a0 n0 c0] 24) (.cells #[.int .i64 0, .int .i64 0, .slice none 0 0] 28) (.cells #[.int .i64 x0, .int .i64 x1, .slice none 0 0] 28))
  go_enter Try.func7, Try.ntmps7
  go_wp2_with fail
  generalize ((w.alloc (.cells #[.int .i64 x0, .int .i64 x1, .slice a0 n0 c0] 24)).alloc (.cells #[.int .i64 0, .int .i64 0, .slice none 0 0] 28)).alloc (.cells #[.int .i64 x0, .int .i64 x1, .slice none 0 0] 28) = W at *
  have hZ := HT.out.2.1
  have HP := hide (Keep.obj HT.out.2.2.1)
  have HR := hide (Keep.obj HT.out.2.2.2.1)
  have HO := hide (Keep.obj HT.out.2.2.2.2)
  have HW := hide HT.out.1
  clear HT
  refine (HF0.out _ HW.out).mono ?_
  rintro e w1 ⟨b0, k0, f0, rfl, hd, hn, hb⟩
  replace HP := hide (HP.out.next hb)
  replace HR := hide (HR.out.next hb)
  replace HO := hide (HO.out.next hb)
  replace HW := hide (below_on HW.out hb)
  have z0 := hb.size
  have HLo0 := hide (fun b hb => (Holds.lt _ _ _ hd b hb).1)
  have HHi0 := hide (fun b hb => (Holds.lt _ _ _ hd b hb).2)
  have HN0 := hide hn
  have HD0 := hide (Keep.data (holdsL_one (Holds.down (show w.heap.size ≤ W.heap.size by omega) _ _ _ hd)))
  clear hb hd hn
  have fe0 : (w1).cell? ⟨w.heap.size + 1 + 1, 0, none⟩ = some (.int .i64 x0) := cell_of_row _ _ 0 _ _ _ HO.out.here
  have fe1 : (w1).cell? ⟨w.heap.size + 1 + 1, 1, none⟩ = some (.int .i64 x1) := cell_of_row _ _ 1 _ _ _ HO.out.here
  have fe2 : (w1).cell? ⟨w.heap.size + 1 + 1, 2, none⟩ = some (.slice none 0 0) := cell_of_row _ _ 2 _ _ _ HO.out.here
  have ef : ∀ q, w1.frozen? ⟨w.heap.size + 1 + 1, q, none⟩ = false := fun q => frozen_of_row _ _ q _ _ HO.out.here
  have fr0 : (w1).cell? ⟨w.heap.size + 1, 0, none⟩ = some (.int .i64 0) := cell_of_row _ _ 0 _ _ _ HR.out.here
  have fr1 : (w1).cell? ⟨w.heap.size + 1, 1, none⟩ = some (.int .i64 0) := cell_of_row _ _ 1 _ _ _ HR.out.here
  have fr2 : (w1).cell? ⟨w.heap.size + 1, 2, none⟩ = some (.slice none 0 0) := cell_of_row _ _ 2 _ _ _ HR.out.here
  have rf : ∀ q, w1.frozen? ⟨w.heap.size + 1, q, none⟩ = false := fun q => frozen_of_row _ _ q _ _ HR.out.here
  go_wp2_with fail
  replace HD0 := hide (HD0.out.set (w.heap.size + 1 + 1) 2 (.slice b0 n0 k0) (by intro hc; have := HLo0.out _ (by simpa using hc); omega))
  replace HW := hide (below_set HW.out (w.heap.size + 1 + 1) 2 (.slice b0 n0 k0) (by omega))
  replace HD0 := hide (HD0.out.set (w.heap.size + 1) 0 (.int .i64 x0) (by intro hc; have := HLo0.out _ (by simpa using hc); omega))
  replace HW := hide (below_set HW.out (w.heap.size + 1) 0 (.int .i64 x0) (by omega))
  replace HD0 := hide (HD0.out.set (w.heap.size + 1) 1 (.int .i64 x1) (by intro hc; have := HLo0.out _ (by simpa using hc); omega))
  replace HW := hide (below_set HW.out (w.heap.size + 1) 1 (.int .i64 x1) (by omega))
  replace HD0 := hide (HD0.out.set (w.heap.size + 1) 2 (.slice b0 n0 k0) (by intro hc; have := HLo0.out _ (by simpa using hc); omega))
  replace HW := hide (below_set HW.out (w.heap.size + 1) 2 (.slice b0 n0 k0) (by omega))
  obtain ⟨_, _, _, _, ee, eb, hh0, hr⟩ := holdsL_cons.1 HD0.out.here
  cases ee
  obtain ⟨_, rfl⟩ := holdsL_nil.1 hr
  rw [List.append_nil, List.append_nil] at eb
  subst eb
  exact bodyPost_ret (v := .agg #[.int .i64 x0, .int .i64 x1, .slice b0 n0 k0]) (by simp [results, Try.results7, go_sem, fr0, fr1, fr2]) rfl ⟨b0, k0, _, rfl, holdsL_cons.2 ⟨_, _, _, _, rfl, rfl, hh0, holdsL_nil.2 ⟨rfl, rfl⟩⟩, (by rw [List.append_nil]; exact HN0.out), HW.out⟩

/-- A row of pieces of one's own. -/
abbrev OwnP (w : World) (B : Nat) (v : Value) (os : List PieceM) : Prop := ownsAt w B 36 6 v os.length (os.flatMap valPiece)
theorem arrP_own {w : World} {B e K n : Nat} {v : Value} {vs : List Value} (h : ownsAt w B e K v n vs) : ∃ (a : Option Addr) (c : Nat), v = .slice a n c ∧ ArrP w a vs ∧ n ≤ c ∧ vs.length = n * K := by
  have h0 := h
  obtain ⟨hl, h⟩ := h
  rcases h with ⟨rfl, rfl⟩ | ⟨g, off, cap, cur, rfl, hB, hg, hle, hfit, hrest⟩
  · refine ⟨none, 0, rfl, fun j hj => ?_, Nat.le_refl _, hl⟩
    rw [hl] at hj; omega
  · exact ⟨_, _, rfl, fun j hj => ⟨g, off, rfl, (Array.getElem?_eq_some_iff.1 hg).1, h0.cellAt j (by rw [← hl]; exact hj)⟩, hle, hl⟩
theorem szL_Piece : ∀ (os : List PieceM), szL (os.flatMap dPiece) = 6 * os.length
  | [] => rfl
  | o :: os => by
    rw [List.flatMap_cons, szL_app, szL_Piece os, List.length_cons]
    simp [dPiece, szL, szD]; omega
theorem pieces_read {w : World} {B n m c : Nat} {os : List PieceM} {a : Option Addr} {bs : List Nat} (h : Holds w B (dPieceS os) (.slice a m c) bs) (hn : os.length = n) : ArrP w a (os.flatMap valPiece) ∧ m = n ∧ n ≤ c := by
  obtain ⟨ho, _⟩ := PieceS_own.1 h
  obtain ⟨a', c', e, ha, hc, _⟩ := arrP_own ho
  cases e
  exact ⟨ha, hn, by omega⟩
theorem eqP_d (os : List PieceM) (a b : Option Addr) (n c d : Nat) (B1 B2 : Nat) (f1 f2 : List Nat) (w : World) (h1 : Holds w B1 (dPieceS os) (.slice a n c) f1) (h2 : Holds w B2 (dPieceS os) (.slice b n d) f2) (hm : n ≤ 1048576) :
    Calls Try.prog 22 #[.slice a n c, .slice b n d] w fun e w' => e = .returned (.bool true) ∧ Below w.heap.size w w' :=
  eqPieceS_d os _ _ B1 B2 f1 f2 w h1 h2 (fun _ _ => trivial) (by have := (pieces_read h1 rfl).2.1; omega)
theorem toP_d (os : List PieceM) (a : Option Addr) (n cap : Nat) (w : World) (hn : os.length = n) (h : ArrP w a (os.flatMap valPiece)) (hm : n ≤ 1048576) :
    Calls Try.prog 18 #[.slice a n cap] w fun e w' => ∃ (a' : Option Addr) (k' : Nat) (f : List Nat), e = .returned (.slice a' n k') ∧ Holds w' w.heap.size (dPieceS os) (.slice a' n k') f ∧ f.Nodup ∧ Below w.heap.size w w' := by
  subst hn
  refine (toPieceS_walk a _ cap os w rfl h hm).mono ?_
  rintro e w' ⟨rfl, hO, hb⟩
  exact ⟨_, _, _, rfl, PieceS_own.2 ⟨hO, rfl⟩, by simp [Value.ownBlock], hb⟩
theorem markP_d (os : List PieceM) (a : Option Addr) (n c B : Nat) (bs : List Nat) (k : Nat) (w : World) (h : Holds w B (dPieceS os) (.slice a n c) bs) (hnd : bs.Nodup) (hn : os.length = n) (hm : n ≤ 1048576) (hk : k + 6 * n ≤ 1073741824) :
    Calls Try.prog 23 #[.slice a n c, .int .i64 (k : Int)] w fun e w' => e = .returned (.int .i64 ((k + 6 * n : Nat) : Int)) ∧ Holds w' B (mkD k (dPieceS os)) (.slice a n c) bs ∧ Only bs w w' := by
  subst hn
  have h' := markPieceS_d os _ B bs k w h hnd (by omega) (by rw [szL_Piece]; omega)
  rw [szL_Piece] at h'
  exact h'
theorem heldP_d (os : List PieceM) (a : Option Addr) (n c B : Nat) (bs : List Nat) (k : Nat) (w : World) (hn : os.length = n) (h : Holds w B (mkD k (dPieceS os)) (.slice a n c) bs) (hm : n ≤ 1048576) (hk : k + 6 * n ≤ 1073741824) :
    Calls Try.prog 24 #[.slice a n c, .int .i64 (k : Int)] w fun e w' => e = .returned (.int .i64 ((k + 6 * n : Nat) : Int)) ∧ Below w.heap.size w w' := by
  subst hn
  have h' := heldPieceS_d os _ B bs k w h (by omega) (by rw [szL_Piece]; omega)
  rw [szL_Piece] at h'
  refine h'.mono ?_
  rintro e w' ⟨rfl, rfl⟩
  exact ⟨rfl, Below.refl _ _⟩
theorem ownP_holds {w : World} {B : Nat} {v : Value} {os : List PieceM} (h : OwnP w B v os) : ∃ (a : Option Addr) (c : Nat), v = .slice a os.length c ∧ Holds w B (dPieceS os) (.slice a os.length c) v.ownBlock.toList := by
  obtain ⟨a, c, rfl, _⟩ := arrP_own h
  exact ⟨a, c, rfl, PieceS_own.2 ⟨h, rfl⟩⟩
theorem own_nodupP (v : Value) : (v.ownBlock.toList).Nodup := by cases v.ownBlock <;> simp
theorem szP_d (a : Option Addr) (n cap : Nat) (l l' : Int) (hl : l' = l - (n : Int)) (h0 : 0 ≤ l') (h1 : l ≤ 1048576) (w : World) : Calls Try.prog 15 #[.slice a n cap, .int .i64 l] w fun e w' => e = .returned (.int .i64 l') ∧ Below w.heap.size w w' := by
  have h := szPieceS_walk a n cap l w (by omega) (by omega) h1
  rw [if_neg (by omega), ← hl] at h
  refine h.mono ?_
  rintro e w' ⟨rfl, rfl⟩
  exact ⟨rfl, Below.refl _ _⟩
theorem szBoard_big0 (x0 x1 : Int) (a0 : Option Addr) (n0 c0 : Nat) (w : World) (h0 : 0 ≤ 1048576) (hs : 1048576 < (n0 : Int)) (m0 : n0 ≤ 9223372036854775807) :
    Calls Try.prog 5 #[.agg #[.int .i64 x0, .int .i64 x1, .slice a0 n0 c0], .int .i64 1048576] w fun e w' => e = .returned (.int .i64 (-1)) ∧ Below w.heap.size w w' := by
  have hb := (Below.refl w.heap.size w).alloc (Nat.le_refl _) (.cells #[.int .i64 x0, .int .i64 x1, .slice a0 n0 c0] 24)
  have Z0 := hide (fun w => by have h := szPieceS_walk a0 n0 c0 (1048576) w (by omega) (by omega) (by omega); rw [if_pos (by omega)] at h; exact h)
  go_enter Try.func5, Try.ntmps5
  go_wp2_with fail
  refine (Z0.out _).mono ?_
  rintro e w' ⟨rfl, rfl⟩
  go_wp2_with fail
  go_ret
  exact ⟨rfl, hb⟩

theorem below_drew {C : Nat} {w w' : World} (h : Below C w.drew w') : Below C w w' := ⟨h.os, h.tape, h.output, h.size, h.block⟩
end Go.Proofs.Ytfffkgladjphoaa
