/-
Contracts of functions of this seat.
-/
import Derived.Test.YtakoagfeiolkjaaDoorRows
import Derived.WalkKit
import Derived.ProofKit
import Derived.OpenShut
import Derived.Test.YtakoagfeiolkjaaDoorLkp
namespace Go.Proofs.YtakoagfeiolkjaaDoor
open Go.ChangeShapes Go.WideShapes Go.ChangeAt Go.RowKit
set_option linter.unusedVariables false
set_option maxRecDepth 100000
/-- The numbers that lie as bytes from a on, whatever they are. -/
def ArrV (w : World) (a : Option Addr) (zs : List Int) : Prop := ∀ j, j < zs.length → ∃ b off, a = some ⟨b, off, none⟩ ∧ b < w.heap.size ∧ w.cell? ⟨b, off + j, none⟩ = some (.int .u8 (zs.getD j 0))
theorem bytes_arrV {w : World} {B : Nat} {zs : List Int} {a : Option Addr} {n cap : Nat} {bs : List Nat} (h : Holds w B (bytesD zs) (.slice a n cap) bs) : ArrV w a zs ∧ zs.length = n ∧ n ≤ cap := by
  rcases Holds.form h with ⟨e, h0, _⟩ | ⟨g, off, cap', e, hB, hg, hc, hl⟩
  · cases e
    exact ⟨fun j hj => by omega, h0, Nat.le_refl _⟩
  · cases e
    exact ⟨fun j hj => ⟨g, off, rfl, hg, Holds.cell h (byD_get zs j hj)⟩, rfl, hc⟩
theorem bytes_read {w : World} {B : Nat} {zs : List Int} {a : Option Addr} {n cap : Nat} {bs : List Nat} (h : Holds w B (bytesD zs) (.slice a n cap) bs) (hz : ∀ z ∈ zs, 0 ≤ z ∧ z ≤ 255) : Arr w a zs ∧ zs.length = n ∧ n ≤ cap :=
  ⟨⟨hz, (bytes_arrV h).1⟩, (bytes_arrV h).2⟩
set_option maxHeartbeats 1000000 in
theorem eqB_v (a b : Option Addr) (n c1 c2 : Nat) (zs : List Int) (w : World) (hn : zs.length = n) (ha : ArrV w a zs) (hb : ArrV w b zs) (hm : n ≤ 1048576) :
    Calls Tryd.prog 10 #[.slice a n c1, .slice b n c2] w fun e w' => e = .returned (.bool true) ∧ Below w.heap.size w w' := by
  have HN := hide hn
  have HA := hide ha
  have HB := hide hb
  clear hn ha hb
  go_enter Tryd.func10, Tryd.ntmps10
  go_wp2_with fail
  go_loopw [5] (fun t w2 => ∃ k : Nat, k ≤ n ∧ t = .int .i64 k ∧ Below w.heap.size w w2) (fun t _ => n - (intOf t).toNat)
  case atStart => exact ⟨0, Nat.zero_le _, rfl, Below.refl _ _⟩
  case round =>
    obtain ⟨k, hk, rfl, hbel⟩ := hrel
    by_cases hlt : k < n
    · obtain ⟨b1, o1, rfl, hb1, hc1⟩ := HA.out k (by rw [HN.out]; exact hlt)
      obtain ⟨b2, o2, rfl, hb2, hc2⟩ := HB.out k (by rw [HN.out]; exact hlt)
      have g1 : wr.cell? ⟨b1, o1 + k, none⟩ = some (.int .u8 (zs.getD k 0)) := by rw [hbel.cell (p := ⟨b1, o1 + k, none⟩) hb1]; exact hc1
      have g2 : wr.cell? ⟨b2, o2 + k, none⟩ = some (.int .u8 (zs.getD k 0)) := by rw [hbel.cell (p := ⟨b2, o2 + k, none⟩) hb2]; exact hc2
      clear hc1 hc2
      generalize zs.getD k 0 = z at g1 g2
      go_wp2
      go_quiet (fail)
      go_wp2
      exact ⟨⟨k + 1, by omega, by go_num, below_drewN hbel nq⟩, by simp [intOf]; omega⟩
    · go_wp2
      go_ret
      exact ⟨rfl, hbel⟩
theorem eqB_d (zs : List Int) (a b : Option Addr) (n c d : Nat) (B1 B2 : Nat) (f1 f2 : List Nat) (w : World) (h1 : Holds w B1 (bytesD zs) (.slice a n c) f1) (h2 : Holds w B2 (bytesD zs) (.slice b n d) f2) (hm : n ≤ 1048576) :
    Calls Tryd.prog 10 #[.slice a n c, .slice b n d] w fun e w' => e = .returned (.bool true) ∧ Below w.heap.size w w' :=
  eqB_v a b n c d zs w (bytes_arrV h1).2.1 (bytes_arrV h1).1 (bytes_arrV h2).1 hm
theorem toB_d (zs : List Int) (a : Option Addr) (n cap : Nat) (w : World) (hn : zs.length = n) (h : Arr w a zs) (hm : n ≤ 1048576) :
    Calls Tryd.prog 7 #[.slice a n cap] w fun e w' => ∃ (a' : Option Addr) (k' : Nat) (f : List Nat), e = .returned (.slice a' n k') ∧ Holds w' w.heap.size (bytesD zs) (.slice a' n k') f ∧ f.Nodup ∧ Below w.heap.size w w' := by
  refine (toByteS_own a n cap zs w hn h hm).mono ?_
  rintro e w' ⟨rfl, hO, hb⟩
  exact ⟨_, _, _, rfl, bytes_own hO, by simp [Value.ownBlock], hb⟩
theorem markB_d (zs : List Int) (a : Option Addr) (n c B : Nat) (bs : List Nat) (k : Nat) (w : World) (h : Holds w B (bytesD zs) (.slice a n c) bs) (hnd : bs.Nodup) (hk : k + n ≤ 1073741824) :
    Calls Tryd.prog 14 #[.slice a n c, .int .i64 (k : Int)] w fun e w' => e = .returned (.int .i64 ((k + n : Nat) : Int)) ∧ Holds w' B (mkD k (bytesD zs)) (.slice a n c) bs ∧ Only bs w w' := by
  have hn := (bytes_arrV h).2.1
  subst hn
  exact markByteS_d zs _ B bs k w h hnd hk
theorem heldB_d (zs : List Int) (a : Option Addr) (n c B : Nat) (bs : List Nat) (k : Nat) (w : World) (hn : zs.length = n) (h : Holds w B (mkD k (bytesD zs)) (.slice a n c) bs) (hk : k + n ≤ 1073741824) :
    Calls Tryd.prog 35 #[.slice a n c, .int .i64 (k : Int)] w fun e w' => e = .returned (.int .i64 ((k + n : Nat) : Int)) ∧ Below w.heap.size w w' := by
  subst hn
  refine (heldByteS_d zs _ B bs k w h hk).mono ?_
  rintro e w' ⟨rfl, rfl⟩
  exact ⟨rfl, Below.refl _ _⟩
theorem own_holds {w : World} {B : Nat} {v : Value} {zs : List Int} (h : OwnB w B v zs) : ∃ (a : Option Addr) (c : Nat), v = .slice a zs.length c ∧ Holds w B (bytesD zs) (.slice a zs.length c) v.ownBlock.toList := by
  obtain ⟨a, c, rfl, _⟩ := own_slice h
  exact ⟨a, c, rfl, bytes_own h⟩
theorem own_nodup (v : Value) : (v.ownBlock.toList).Nodup := by cases v.ownBlock <;> simp
theorem own_apart {u v : Value} (h : ∀ b, u.ownBlock = some b → v.ownBlock ≠ some b) : (u.ownBlock.toList ++ v.ownBlock.toList).Nodup := by
  rw [List.nodup_append]
  refine ⟨own_nodup u, own_nodup v, fun x hx y hy e => ?_⟩
  subst e
  exact h x (by simpa using hx) (by simpa using hy)

set_option maxHeartbeats 4000000 in
theorem eqIcmp_d (w : World) (x0 : Int) (x1 : Int) (x2 : Int) (a0 : Option Addr) (n0 c0 : Nat) (b0 : Option Addr) (d0 : Nat) (hf0 : ∀ (W : World), Below w.heap.size w W → Calls Tryd.prog 10 #[.slice a0 n0 c0, .slice b0 n0 d0] W fun e w' => e = .returned (.bool true) ∧ Below W.heap.size W w') :
    Calls Tryd.prog 13 #[.agg #[.int .i64 x0, .int .i64 x1, .int .i64 x2, .slice a0 n0 c0], .agg #[.int .i64 x0, .int .i64 x1, .int .i64 x2, .slice b0 n0 d0]] w fun e w' => e = .returned (.bool true) ∧ Below w.heap.size w w' := by
  have HF0 := hide hf0
  clear hf0
  have HW := hide (TwoB.start w (.cells #[.int .i64 x0, .int .i64 x1, .int .i64 x2, .slice a0 n0 c0] 32) (.cells #[.int .i64 x0, .int .i64 x1, .int .i64 x2, .slice b0 n0 d0] 32))
  have fc0 : ((w.alloc (.cells #[.int .i64 x0, .int .i64 x1, .int .i64 x2, .slice a0 n0 c0] 32)).alloc (.cells #[.int .i64 x0, .int .i64 x1, .int .i64 x2, .slice b0 n0 d0] 32)).cell? ⟨w.heap.size, 0, none⟩ = some (.int .i64 x0) := cell_of_row _ _ 0 _ _ _ HW.out.2.1
  have fc1 : ((w.alloc (.cells #[.int .i64 x0, .int .i64 x1, .int .i64 x2, .slice a0 n0 c0] 32)).alloc (.cells #[.int .i64 x0, .int .i64 x1, .int .i64 x2, .slice b0 n0 d0] 32)).cell? ⟨w.heap.size, 1, none⟩ = some (.int .i64 x1) := cell_of_row _ _ 1 _ _ _ HW.out.2.1
  have fc2 : ((w.alloc (.cells #[.int .i64 x0, .int .i64 x1, .int .i64 x2, .slice a0 n0 c0] 32)).alloc (.cells #[.int .i64 x0, .int .i64 x1, .int .i64 x2, .slice b0 n0 d0] 32)).cell? ⟨w.heap.size, 2, none⟩ = some (.int .i64 x2) := cell_of_row _ _ 2 _ _ _ HW.out.2.1
  have fc3 : ((w.alloc (.cells #[.int .i64 x0, .int .i64 x1, .int .i64 x2, .slice a0 n0 c0] 32)).alloc (.cells #[.int .i64 x0, .int .i64 x1, .int .i64 x2, .slice b0 n0 d0] 32)).cell? ⟨w.heap.size, 3, none⟩ = some (.slice a0 n0 c0) := cell_of_row _ _ 3 _ _ _ HW.out.2.1
  have fe0 : ((w.alloc (.cells #[.int .i64 x0, .int .i64 x1, .int .i64 x2, .slice a0 n0 c0] 32)).alloc (.cells #[.int .i64 x0, .int .i64 x1, .int .i64 x2, .slice b0 n0 d0] 32)).cell? ⟨w.heap.size + 1, 0, none⟩ = some (.int .i64 x0) := cell_of_row _ _ 0 _ _ _ HW.out.2.2
  have fe1 : ((w.alloc (.cells #[.int .i64 x0, .int .i64 x1, .int .i64 x2, .slice a0 n0 c0] 32)).alloc (.cells #[.int .i64 x0, .int .i64 x1, .int .i64 x2, .slice b0 n0 d0] 32)).cell? ⟨w.heap.size + 1, 1, none⟩ = some (.int .i64 x1) := cell_of_row _ _ 1 _ _ _ HW.out.2.2
  have fe2 : ((w.alloc (.cells #[.int .i64 x0, .int .i64 x1, .int .i64 x2, .slice a0 n0 c0] 32)).alloc (.cells #[.int .i64 x0, .int .i64 x1, .int .i64 x2, .slice b0 n0 d0] 32)).cell? ⟨w.heap.size + 1, 2, none⟩ = some (.int .i64 x2) := cell_of_row _ _ 2 _ _ _ HW.out.2.2
  have fe3 : ((w.alloc (.cells #[.int .i64 x0, .int .i64 x1, .int .i64 x2, .slice a0 n0 c0] 32)).alloc (.cells #[.int .i64 x0, .int .i64 x1, .int .i64 x2, .slice b0 n0 d0] 32)).cell? ⟨w.heap.size + 1, 3, none⟩ = some (.slice b0 n0 d0) := cell_of_row _ _ 3 _ _ _ HW.out.2.2
  go_enter Tryd.func13, Tryd.ntmps13
  go_wp2_with fail
  generalize (w.alloc (.cells #[.int .i64 x0, .int .i64 x1, .int .i64 x2, .slice a0 n0 c0] 32)).alloc (.cells #[.int .i64 x0, .int .i64 x1, .int .i64 x2, .slice b0 n0 d0] 32) = W at *
  clear fc0 fe0 fc1 fe1 fc2 fe2 fc3 fe3
  refine (HF0.out _ HW.out.1.1).mono ?_
  rintro e w1 ⟨rfl, hb⟩
  replace HW := hide (HW.out.next hb)
  clear hb
  have fc0 : (w1).cell? ⟨w.heap.size, 0, none⟩ = some (.int .i64 x0) := cell_of_row _ _ 0 _ _ _ HW.out.2.1
  have fc1 : (w1).cell? ⟨w.heap.size, 1, none⟩ = some (.int .i64 x1) := cell_of_row _ _ 1 _ _ _ HW.out.2.1
  have fc2 : (w1).cell? ⟨w.heap.size, 2, none⟩ = some (.int .i64 x2) := cell_of_row _ _ 2 _ _ _ HW.out.2.1
  have fc3 : (w1).cell? ⟨w.heap.size, 3, none⟩ = some (.slice a0 n0 c0) := cell_of_row _ _ 3 _ _ _ HW.out.2.1
  have fe0 : (w1).cell? ⟨w.heap.size + 1, 0, none⟩ = some (.int .i64 x0) := cell_of_row _ _ 0 _ _ _ HW.out.2.2
  have fe1 : (w1).cell? ⟨w.heap.size + 1, 1, none⟩ = some (.int .i64 x1) := cell_of_row _ _ 1 _ _ _ HW.out.2.2
  have fe2 : (w1).cell? ⟨w.heap.size + 1, 2, none⟩ = some (.int .i64 x2) := cell_of_row _ _ 2 _ _ _ HW.out.2.2
  have fe3 : (w1).cell? ⟨w.heap.size + 1, 3, none⟩ = some (.slice b0 n0 d0) := cell_of_row _ _ 3 _ _ _ HW.out.2.2
  go_wp2_with fail
  go_ret
  exact ⟨rfl, HW.out.1.1⟩
set_option maxHeartbeats 4000000 in
theorem markIcmp_d (w : World) (x0 : Int) (x1 : Int) (x2 : Int) (a0 : Option Addr) (n0 c0 : Nat) (d0 m0 : D) (K0 K1 : Int) (B : Nat) (bs : List Nat) (hf0 : ∀ (W : World) (f : List Nat), Holds W B d0 (.slice a0 n0 c0) f → f.Nodup → Calls Tryd.prog 14 #[.slice a0 n0 c0, .int .i64 K0] W fun e w' => e = .returned (.int .i64 K1) ∧ Holds w' B m0 (.slice a0 n0 c0) f ∧ Only f W w') (h : HoldsL w B [d0] [.slice a0 n0 c0] bs) (hnd : bs.Nodup) :
    Calls Tryd.prog 15 #[.agg #[.int .i64 x0, .int .i64 x1, .int .i64 x2, .slice a0 n0 c0], .int .i64 K0] w fun e w' => e = .returned (.int .i64 K1) ∧ HoldsL w' B [m0] [.slice a0 n0 c0] bs ∧ Only bs w w' := by
  obtain ⟨_, _, f0, g0, e0, rfl, h0, r0⟩ := holdsL_cons.1 h
  cases e0
  obtain ⟨_, rfl⟩ := holdsL_nil.1 r0
  have HF0 := hide hf0
  clear hf0
  have hal := (Below.refl w.heap.size w).alloc (Nat.le_refl _) (.cells #[.int .i64 x0, .int .i64 x1, .int .i64 x2, .slice a0 n0 c0] 32)
  have HR := hide (Only.of_below (S := f0 ++ []) hal)
  have HX := hide (Keep.new w (.cells #[.int .i64 x0, .int .i64 x1, .int .i64 x2, .slice a0 n0 c0] 32))
  have HD0 := hide (Keep.data (holdsL_one h0))
  have HL0 := hide (fun b hb => (Holds.lt _ _ _ h0 b hb).2)
  replace HD0 := hide (HD0.out.next hal)
  have HN := hide hnd
  clear hal h hnd h0 r0
  have fc0 : (w.alloc (.cells #[.int .i64 x0, .int .i64 x1, .int .i64 x2, .slice a0 n0 c0] 32)).cell? ⟨w.heap.size, 0, none⟩ = some (.int .i64 x0) := cell_of_row _ _ 0 _ _ _ HX.out.here
  have fc1 : (w.alloc (.cells #[.int .i64 x0, .int .i64 x1, .int .i64 x2, .slice a0 n0 c0] 32)).cell? ⟨w.heap.size, 1, none⟩ = some (.int .i64 x1) := cell_of_row _ _ 1 _ _ _ HX.out.here
  have fc2 : (w.alloc (.cells #[.int .i64 x0, .int .i64 x1, .int .i64 x2, .slice a0 n0 c0] 32)).cell? ⟨w.heap.size, 2, none⟩ = some (.int .i64 x2) := cell_of_row _ _ 2 _ _ _ HX.out.here
  have fc3 : (w.alloc (.cells #[.int .i64 x0, .int .i64 x1, .int .i64 x2, .slice a0 n0 c0] 32)).cell? ⟨w.heap.size, 3, none⟩ = some (.slice a0 n0 c0) := cell_of_row _ _ 3 _ _ _ HX.out.here
  go_enter Tryd.func15, Tryd.ntmps15
  go_wp2_with fail
  generalize w.alloc (.cells #[.int .i64 x0, .int .i64 x1, .int .i64 x2, .slice a0 n0 c0] 32) = W at *
  clear fc0 fc1 fc2 fc3
  obtain ⟨_, _, _, _, ee, eb, hh, hr⟩ := holdsL_cons.1 HD0.out.here
  cases ee
  obtain ⟨_, rfl⟩ := holdsL_nil.1 hr
  rw [List.append_nil, List.append_nil] at eb
  subst eb
  refine (HF0.out _ _ hh (nodup_left HN.out)).mono ?_
  rintro e w1 ⟨rfl, hm, hon⟩
  clear hh hr
  replace HX := hide (HX.out.only hon (fun b hb hc => by have h1 := List.mem_singleton.1 hb; have h2 := HL0.out b hc; omega))
  replace HD0 := hide (Keep.data (holdsL_one hm))
  replace HR := hide (HR.out.trans (hon.mono (fun b hb => by simp [hb])))
  clear hm hon
  have fc0 : (w1).cell? ⟨w.heap.size, 0, none⟩ = some (.int .i64 x0) := cell_of_row _ _ 0 _ _ _ HX.out.here
  have fc1 : (w1).cell? ⟨w.heap.size, 1, none⟩ = some (.int .i64 x1) := cell_of_row _ _ 1 _ _ _ HX.out.here
  have fc2 : (w1).cell? ⟨w.heap.size, 2, none⟩ = some (.int .i64 x2) := cell_of_row _ _ 2 _ _ _ HX.out.here
  have fc3 : (w1).cell? ⟨w.heap.size, 3, none⟩ = some (.slice a0 n0 c0) := cell_of_row _ _ 3 _ _ _ HX.out.here
  go_wp2_with fail
  go_ret
  obtain ⟨_, _, _, _, ee, eb, hh0, hr⟩ := holdsL_cons.1 HD0.out.here
  cases ee
  obtain ⟨_, rfl⟩ := holdsL_nil.1 hr
  rw [List.append_nil, List.append_nil] at eb
  subst eb
  exact ⟨rfl, holdsL_cons.2 ⟨_, _, _, _, rfl, rfl, hh0, holdsL_nil.2 ⟨rfl, rfl⟩⟩, HR.out⟩
set_option maxHeartbeats 4000000 in
theorem heldIcmp_d (w : World) (x0 : Int) (x1 : Int) (x2 : Int) (a0 : Option Addr) (n0 c0 : Nat) (m0 : D) (K0 K1 : Int) (B : Nat) (bs : List Nat) (hk1 : 0 ≤ K1) (hf0 : ∀ (W : World) (f : List Nat), Holds W B m0 (.slice a0 n0 c0) f → Calls Tryd.prog 35 #[.slice a0 n0 c0, .int .i64 K0] W fun e w' => e = .returned (.int .i64 K1) ∧ Below W.heap.size W w') (h : HoldsL w B [m0] [.slice a0 n0 c0] bs) :
    Calls Tryd.prog 16 #[.agg #[.int .i64 x0, .int .i64 x1, .int .i64 x2, .slice a0 n0 c0], .int .i64 K0] w fun e w' => e = .returned (.int .i64 K1) ∧ Below w.heap.size w w' := by
  obtain ⟨_, _, f0, g0, e0, rfl, h0, r0⟩ := holdsL_cons.1 h
  cases e0
  have HF0 := hide hf0
  clear hf0
  have hal := (Below.refl w.heap.size w).alloc (Nat.le_refl _) (.cells #[.int .i64 x0, .int .i64 x1, .int .i64 x2, .slice a0 n0 c0] 32)
  have HW := hide hal
  have HX := hide (Keep.new w (.cells #[.int .i64 x0, .int .i64 x1, .int .i64 x2, .slice a0 n0 c0] 32))
  have HD0 := hide (Holds.next h0 hal)
  clear hal h h0 r0
  have fc0 : (w.alloc (.cells #[.int .i64 x0, .int .i64 x1, .int .i64 x2, .slice a0 n0 c0] 32)).cell? ⟨w.heap.size, 0, none⟩ = some (.int .i64 x0) := cell_of_row _ _ 0 _ _ _ HX.out.here
  have fc1 : (w.alloc (.cells #[.int .i64 x0, .int .i64 x1, .int .i64 x2, .slice a0 n0 c0] 32)).cell? ⟨w.heap.size, 1, none⟩ = some (.int .i64 x1) := cell_of_row _ _ 1 _ _ _ HX.out.here
  have fc2 : (w.alloc (.cells #[.int .i64 x0, .int .i64 x1, .int .i64 x2, .slice a0 n0 c0] 32)).cell? ⟨w.heap.size, 2, none⟩ = some (.int .i64 x2) := cell_of_row _ _ 2 _ _ _ HX.out.here
  have fc3 : (w.alloc (.cells #[.int .i64 x0, .int .i64 x1, .int .i64 x2, .slice a0 n0 c0] 32)).cell? ⟨w.heap.size, 3, none⟩ = some (.slice a0 n0 c0) := cell_of_row _ _ 3 _ _ _ HX.out.here
  go_enter Tryd.func16, Tryd.ntmps16
  go_wp2_with fail
  generalize w.alloc (.cells #[.int .i64 x0, .int .i64 x1, .int .i64 x2, .slice a0 n0 c0] 32) = W at *
  clear fc0 fc1 fc2 fc3
  refine (HF0.out _ _ HD0.out).mono ?_
  rintro e w1 ⟨rfl, hb⟩
  replace HX := hide (HX.out.next hb)
  replace HW := hide (below_on HW.out hb)
  replace HD0 := hide (Holds.next HD0.out hb)
  clear hb
  have fc0 : (w1).cell? ⟨w.heap.size, 0, none⟩ = some (.int .i64 x0) := cell_of_row _ _ 0 _ _ _ HX.out.here
  have fc1 : (w1).cell? ⟨w.heap.size, 1, none⟩ = some (.int .i64 x1) := cell_of_row _ _ 1 _ _ _ HX.out.here
  have fc2 : (w1).cell? ⟨w.heap.size, 2, none⟩ = some (.int .i64 x2) := cell_of_row _ _ 2 _ _ _ HX.out.here
  have fc3 : (w1).cell? ⟨w.heap.size, 3, none⟩ = some (.slice a0 n0 c0) := cell_of_row _ _ 3 _ _ _ HX.out.here
  go_wp2_with fail
  go_ret
  exact ⟨rfl, HW.out⟩
set_option maxHeartbeats 4000000 in
theorem eqPacket_d (w : World) (x0 : Int) (x1 : Int) (x2 : Bool) (x3 : Bool) (x4 : Int) (x5 : Int) (x6 : Int) (x7 : Int) (x8 : Int) (a0 : Option Addr) (n0 c0 : Nat) (a1 : Option Addr) (n1 c1 : Nat) (b0 : Option Addr) (d0 : Nat) (b1 : Option Addr) (d1 : Nat) (hf0 : ∀ (W : World), Below w.heap.size w W → Calls Tryd.prog 10 #[.slice a0 n0 c0, .slice b0 n0 d0] W fun e w' => e = .returned (.bool true) ∧ Below W.heap.size W w') (hf1 : ∀ (W : World), Below w.heap.size w W → Calls Tryd.prog 10 #[.slice a1 n1 c1, .slice b1 n1 d1] W fun e w' => e = .returned (.bool true) ∧ Below W.heap.size W w') :
    Calls Tryd.prog 19 #[.agg #[.int .i64 x0, .int .i64 x1, .bool x2, .bool x3, .int .i64 x4, .int .i64 x5, .int .i64 x6, .int .i64 x7, .int .i64 x8, .slice a0 n0 c0, .slice a1 n1 c1], .agg #[.int .i64 x0, .int .i64 x1, .bool x2, .bool x3, .int .i64 x4, .int .i64 x5, .int .i64 x6, .int .i64 x7, .int .i64 x8, .slice b0 n0 d0, .slice b1 n1 d1]] w fun e w' => e = .returned (.bool true) ∧ Below w.heap.size w w' := by
  have HF0 := hide hf0
  clear hf0
  have HF1 := hide hf1
  clear hf1
  have HW := hide (TwoB.start w (.cells #[.int .i64 x0, .int .i64 x1, .bool x2, .bool x3, .int .i64 x4, .int .i64 x5, .int .i64 x6, .int .i64 x7, .int .i64 x8, .slice a0 n0 c0, .slice a1 n1 c1] 39) (.cells #[.int .i64 x0, .int .i64 x1, .bool x2, .bool x3, .int .i64 x4, .int .i64 x5, .int .i64 x6, .int .i64 x7, .int .i64 x8, .slice b0 n0 d0, .slice b1 n1 d1] 39))
  have fc0 : ((w.alloc (.cells #[.int .i64 x0, .int .i64 x1, .bool x2, .bool x3, .int .i64 x4, .int .i64 x5, .int .i64 x6, .int .i64 x7, .int .i64 x8, .slice a0 n0 c0, .slice a1 n1 c1] 39)).alloc (.cells #[.int .i64 x0, .int .i64 x1, .bool x2, .bool x3, .int .i64 x4, .int .i64 x5, .int .i64 x6, .int .i64 x7, .int .i64 x8, .slice b0 n0 d0, .slice b1 n1 d1] 39)).cell? ⟨w.heap.size, 0, none⟩ = some (.int .i64 x0) := cell_of_row _ _ 0 _ _ _ HW.out.2.1
  have fc1 : ((w.alloc (.cells #[.int .i64 x0, .int .i64 x1, .bool x2, .bool x3, .int .i64 x4, .int .i64 x5, .int .i64 x6, .int .i64 x7, .int .i64 x8, .slice a0 n0 c0, .slice a1 n1 c1] 39)).alloc (.cells #[.int .i64 x0, .int .i64 x1, .bool x2, .bool x3, .int .i64 x4, .int .i64 x5, .int .i64 x6, .int .i64 x7, .int .i64 x8, .slice b0 n0 d0, .slice b1 n1 d1] 39)).cell? ⟨w.heap.size, 1, none⟩ = some (.int .i64 x1) := cell_of_row _ _ 1 _ _ _ HW.out.2.1
  have fc2 : ((w.alloc (.cells #[.int .i64 x0, .int .i64 x1, .bool x2, .bool x3, .int .i64 x4, .int .i64 x5, .int .i64 x6, .int .i64 x7, .int .i64 x8, .slice a0 n0 c0, .slice a1 n1 c1] 39)).alloc (.cells #[.int .i64 x0, .int .i64 x1, .bool x2, .bool x3, .int .i64 x4, .int .i64 x5, .int .i64 x6, .int .i64 x7, .int .i64 x8, .slice b0 n0 d0, .slice b1 n1 d1] 39)).cell? ⟨w.heap.size, 2, none⟩ = some (.bool x2) := cell_of_row _ _ 2 _ _ _ HW.out.2.1
  have fc3 : ((w.alloc (.cells #[.int .i64 x0, .int .i64 x1, .bool x2, .bool x3, .int .i64 x4, .int .i64 x5, .int .i64 x6, .int .i64 x7, .int .i64 x8, .slice a0 n0 c0, .slice a1 n1 c1] 39)).alloc (.cells #[.int .i64 x0, .int .i64 x1, .bool x2, .bool x3, .int .i64 x4, .int .i64 x5, .int .i64 x6, .int .i64 x7, .int .i64 x8, .slice b0 n0 d0, .slice b1 n1 d1] 39)).cell? ⟨w.heap.size, 3, none⟩ = some (.bool x3) := cell_of_row _ _ 3 _ _ _ HW.out.2.1
  have fc4 : ((w.alloc (.cells #[.int .i64 x0, .int .i64 x1, .bool x2, .bool x3, .int .i64 x4, .int .i64 x5, .int .i64 x6, .int .i64 x7, .int .i64 x8, .slice a0 n0 c0, .slice a1 n1 c1] 39)).alloc (.cells #[.int .i64 x0, .int .i64 x1, .bool x2, .bool x3, .int .i64 x4, .int .i64 x5, .int .i64 x6, .int .i64 x7, .int .i64 x8, .slice b0 n0 d0, .slice b1 n1 d1] 39)).cell? ⟨w.heap.size, 4, none⟩ = some (.int .i64 x4) := cell_of_row _ _ 4 _ _ _ HW.out.2.1
  have fc5 : ((w.alloc (.cells #[.int .i64 x0, .int .i64 x1, .bool x2, .bool x3, .int .i64 x4, .int .i64 x5, .int .i64 x6, .int .i64 x7, .int .i64 x8, .slice a0 n0 c0, .slice a1 n1 c1] 39)).alloc (.cells #[.int .i64 x0, .int .i64 x1, .bool x2, .bool x3, .int .i64 x4, .int .i64 x5, .int .i64 x6, .int .i64 x7, .int .i64 x8, .slice b0 n0 d0, .slice b1 n1 d1] 39)).cell? ⟨w.heap.size, 5, none⟩ = some (.int .i64 x5) := cell_of_row _ _ 5 _ _ _ HW.out.2.1
  have fc6 : ((w.alloc (.cells #[.int .i64 x0, .int .i64 x1, .bool x2, .bool x3, .int .i64 x4, .int .i64 x5, .int .i64 x6, .int .i64 x7, .int .i64 x8, .slice a0 n0 c0, .slice a1 n1 c1] 39)).alloc (.cells #[.int .i64 x0, .int .i64 x1, .bool x2, .bool x3, .int .i64 x4, .int .i64 x5, .int .i64 x6, .int .i64 x7, .int .i64 x8, .slice b0 n0 d0, .slice b1 n1 d1] 39)).cell? ⟨w.heap.size, 6, none⟩ = some (.int .i64 x6) := cell_of_row _ _ 6 _ _ _ HW.out.2.1
  have fc7 : ((w.alloc (.cells #[.int .i64 x0, .int .i64 x1, .bool x2, .bool x3, .int .i64 x4, .int .i64 x5, .int .i64 x6, .int .i64 x7, .int .i64 x8, .slice a0 n0 c0, .slice a1 n1 c1] 39)).alloc (.cells #[.int .i64 x0, .int .i64 x1, .bool x2, .bool x3, .int .i64 x4, .int .i64 x5, .int .i64 x6, .int .i64 x7, .int .i64 x8, .slice b0 n0 d0, .slice b1 n1 d1] 39)).cell? ⟨w.heap.size, 7, none⟩ = some (.int .i64 x7) := cell_of_row _ _ 7 _ _ _ HW.out.2.1
  have fc8 : ((w.alloc (.cells #[.int .i64 x0, .int .i64 x1, .bool x2, .bool x3, .int .i64 x4, .int .i64 x5, .int .i64 x6, .int .i64 x7, .int .i64 x8, .slice a0 n0 c0, .slice a1 n1 c1] 39)).alloc (.cells #[.int .i64 x0, .int .i64 x1, .bool x2, .bool x3, .int .i64 x4, .int .i64 x5, .int .i64 x6, .int .i64 x7, .int .i64 x8, .slice b0 n0 d0, .slice b1 n1 d1] 39)).cell? ⟨w.heap.size, 8, none⟩ = some (.int .i64 x8) := cell_of_row _ _ 8 _ _ _ HW.out.2.1
  have fc9 : ((w.alloc (.cells #[.int .i64 x0, .int .i64 x1, .bool x2, .bool x3, .int .i64 x4, .int .i64 x5, .int .i64 x6, .int .i64 x7, .int .i64 x8, .slice a0 n0 c0, .slice a1 n1 c1] 39)).alloc (.cells #[.int .i64 x0, .int .i64 x1, .bool x2, .bool x3, .int .i64 x4, .int .i64 x5, .int .i64 x6, .int .i64 x7, .int .i64 x8, .slice b0 n0 d0, .slice b1 n1 d1] 39)).cell? ⟨w.heap.size, 9, none⟩ = some (.slice a0 n0 c0) := cell_of_row _ _ 9 _ _ _ HW.out.2.1
  have fc10 : ((w.alloc (.cells #[.int .i64 x0, .int .i64 x1, .bool x2, .bool x3, .int .i64 x4, .int .i64 x5, .int .i64 x6, .int .i64 x7, .int .i64 x8, .slice a0 n0 c0, .slice a1 n1 c1] 39)).alloc (.cells #[.int .i64 x0, .int .i64 x1, .bool x2, .bool x3, .int .i64 x4, .int .i64 x5, .int .i64 x6, .int .i64 x7, .int .i64 x8, .slice b0 n0 d0, .slice b1 n1 d1] 39)).cell? ⟨w.heap.size, 10, none⟩ = some (.slice a1 n1 c1) := cell_of_row _ _ 10 _ _ _ HW.out.2.1
  have fe0 : ((w.alloc (.cells #[.int .i64 x0, .int .i64 x1, .bool x2, .bool x3, .int .i64 x4, .int .i64 x5, .int .i64 x6, .int .i64 x7, .int .i64 x8, .slice a0 n0 c0, .slice a1 n1 c1] 39)).alloc (.cells #[.int .i64 x0, .int .i64 x1, .bool x2, .bool x3, .int .i64 x4, .int .i64 x5, .int .i64 x6, .int .i64 x7, .int .i64 x8, .slice b0 n0 d0, .slice b1 n1 d1] 39)).cell? ⟨w.heap.size + 1, 0, none⟩ = some (.int .i64 x0) := cell_of_row _ _ 0 _ _ _ HW.out.2.2
  have fe1 : ((w.alloc (.cells #[.int .i64 x0, .int .i64 x1, .bool x2, .bool x3, .int .i64 x4, .int .i64 x5, .int .i64 x6, .int .i64 x7, .int .i64 x8, .slice a0 n0 c0, .slice a1 n1 c1] 39)).alloc (.cells #[.int .i64 x0, .int .i64 x1, .bool x2, .bool x3, .int .i64 x4, .int .i64 x5, .int .i64 x6, .int .i64 x7, .int .i64 x8, .slice b0 n0 d0, .slice b1 n1 d1] 39)).cell? ⟨w.heap.size + 1, 1, none⟩ = some (.int .i64 x1) := cell_of_row _ _ 1 _ _ _ HW.out.2.2
  have fe2 : ((w.alloc (.cells #[.int .i64 x0, .int .i64 x1, .bool x2, .bool x3, .int .i64 x4, .int .i64 x5, .int .i64 x6, .int .i64 x7, .int .i64 x8, .slice a0 n0 c0, .slice a1 n1 c1] 39)).alloc (.cells #[.int .i64 x0, .int .i64 x1, .bool x2, .bool x3, .int .i64 x4, .int .i64 x5, .int .i64 x6, .int .i64 x7, .int .i64 x8, .slice b0 n0 d0, .slice b1 n1 d1] 39)).cell? ⟨w.heap.size + 1, 2, none⟩ = some (.bool x2) := cell_of_row _ _ 2 _ _ _ HW.out.2.2
  have fe3 : ((w.alloc (.cells #[.int .i64 x0, .int .i64 x1, .bool x2, .bool x3, .int .i64 x4, .int .i64 x5, .int .i64 x6, .int .i64 x7, .int .i64 x8, .slice a0 n0 c0, .slice a1 n1 c1] 39)).alloc (.cells #[.int .i64 x0, .int .i64 x1, .bool x2, .bool x3, .int .i64 x4, .int .i64 x5, .int .i64 x6, .int .i64 x7, .int .i64 x8, .slice b0 n0 d0, .slice b1 n1 d1] 39)).cell? ⟨w.heap.size + 1, 3, none⟩ = some (.bool x3) := cell_of_row _ _ 3 _ _ _ HW.out.2.2
  have fe4 : ((w.alloc (.cells #[.int .i64 x0, .int .i64 x1, .bool x2, .bool x3, .int .i64 x4, .int .i64 x5, .int .i64 x6, .int .i64 x7, .int .i64 x8, .slice a0 n0 c0, .slice a1 n1 c1] 39)).alloc (.cells #[.int .i64 x0, .int .i64 x1, .bool x2, .bool x3, .int .i64 x4, .int .i64 x5, .int .i64 x6, .int .i64 x7, .int .i64 x8, .slice b0 n0 d0, .slice b1 n1 d1] 39)).cell? ⟨w.heap.size + 1, 4, none⟩ = some (.int .i64 x4) := cell_of_row _ _ 4 _ _ _ HW.out.2.2
  have fe5 : ((w.alloc (.cells #[.int .i64 x0, .int .i64 x1, .bool x2, .bool x3, .int .i64 x4, .int .i64 x5, .int .i64 x6, .int .i64 x7, .int .i64 x8, .slice a0 n0 c0, .slice a1 n1 c1] 39)).alloc (.cells #[.int .i64 x0, .int .i64 x1, .bool x2, .bool x3, .int .i64 x4, .int .i64 x5, .int .i64 x6, .int .i64 x7, .int .i64 x8, .slice b0 n0 d0, .slice b1 n1 d1] 39)).cell? ⟨w.heap.size + 1, 5, none⟩ = some (.int .i64 x5) := cell_of_row _ _ 5 _ _ _ HW.out.2.2
  have fe6 : ((w.alloc (.cells #[.int .i64 x0, .int .i64 x1, .bool x2, .bool x3, .int .i64 x4, .int .i64 x5, .int .i64 x6, .int .i64 x7, .int .i64 x8, .slice a0 n0 c0, .slice a1 n1 c1] 39)).alloc (.cells #[.int .i64 x0, .int .i64 x1, .bool x2, .bool x3, .int .i64 x4, .int .i64 x5, .int .i64 x6, .int .i64 x7, .int .i64 x8, .slice b0 n0 d0, .slice b1 n1 d1] 39)).cell? ⟨w.heap.size + 1, 6, none⟩ = some (.int .i64 x6) := cell_of_row _ _ 6 _ _ _ HW.out.2.2
  have fe7 : ((w.alloc (.cells #[.int .i64 x0, .int .i64 x1, .bool x2, .bool x3, .int .i64 x4, .int .i64 x5, .int .i64 x6, .int .i64 x7, .int .i64 x8, .slice a0 n0 c0, .slice a1 n1 c1] 39)).alloc (.cells #[.int .i64 x0, .int .i64 x1, .bool x2, .bool x3, .int .i64 x4, .int .i64 x5, .int .i64 x6, .int .i64 x7, .int .i64 x8, .slice b0 n0 d0, .slice b1 n1 d1] 39)).cell? ⟨w.heap.size + 1, 7, none⟩ = some (.int .i64 x7) := cell_of_row _ _ 7 _ _ _ HW.out.2.2
  have fe8 : ((w.alloc (.cells #[.int .i64 x0, .int .i64 x1, .bool x2, .bool x3, .int .i64 x4, .int .i64 x5, .int .i64 x6, .int .i64 x7, .int .i64 x8, .slice a0 n0 c0, .slice a1 n1 c1] 39)).alloc (.cells #[.int .i64 x0, .int .i64 x1, .bool x2, .bool x3, .int .i64 x4, .int .i64 x5, .int .i64 x6, .int .i64 x7, .int .i64 x8, .slice b0 n0 d0, .slice b1 n1 d1] 39)).cell? ⟨w.heap.size + 1, 8, none⟩ = some (.int .i64 x8) := cell_of_row _ _ 8 _ _ _ HW.out.2.2
  have fe9 : ((w.alloc (.cells #[.int .i64 x0, .int .i64 x1, .bool x2, .bool x3, .int .i64 x4, .int .i64 x5, .int .i64 x6, .int .i64 x7, .int .i64 x8, .slice a0 n0 c0, .slice a1 n1 c1] 39)).alloc (.cells #[.int .i64 x0, .int .i64 x1, .bool x2, .bool x3, .int .i64 x4, .int .i64 x5, .int .i64 x6, .int .i64 x7, .int .i64 x8, .slice b0 n0 d0, .slice b1 n1 d1] 39)).cell? ⟨w.heap.size + 1, 9, none⟩ = some (.slice b0 n0 d0) := cell_of_row _ _ 9 _ _ _ HW.out.2.2
  have fe10 : ((w.alloc (.cells #[.int .i64 x0, .int .i64 x1, .bool x2, .bool x3, .int .i64 x4, .int .i64 x5, .int .i64 x6, .int .i64 x7, .int .i64 x8, .slice a0 n0 c0, .slice a1 n1 c1] 39)).alloc (.cells #[.int .i64 x0, .int .i64 x1, .bool x2, .bool x3, .int .i64 x4, .int .i64 x5, .int .i64 x6, .int .i64 x7, .int .i64 x8, .slice b0 n0 d0, .slice b1 n1 d1] 39)).cell? ⟨w.heap.size + 1, 10, none⟩ = some (.slice b1 n1 d1) := cell_of_row _ _ 10 _ _ _ HW.out.2.2
  go_enter Tryd.func19, Tryd.ntmps19
  go_wp2_with fail
  generalize (w.alloc (.cells #[.int .i64 x0, .int .i64 x1, .bool x2, .bool x3, .int .i64 x4, .int .i64 x5, .int .i64 x6, .int .i64 x7, .int .i64 x8, .slice a0 n0 c0, .slice a1 n1 c1] 39)).alloc (.cells #[.int .i64 x0, .int .i64 x1, .bool x2, .bool x3, .int .i64 x4, .int .i64 x5, .int .i64 x6, .int .i64 x7, .int .i64 x8, .slice b0 n0 d0, .slice b1 n1 d1] 39) = W at *
  clear fc0 fe0 fc1 fe1 fc2 fe2 fc3 fe3 fc4 fe4 fc5 fe5 fc6 fe6 fc7 fe7 fc8 fe8 fc9 fe9 fc10 fe10
  refine (HF0.out _ HW.out.1.1).mono ?_
  rintro e w1 ⟨rfl, hb⟩
  replace HW := hide (HW.out.next hb)
  clear hb
  have fc0 : (w1).cell? ⟨w.heap.size, 0, none⟩ = some (.int .i64 x0) := cell_of_row _ _ 0 _ _ _ HW.out.2.1
  have fc1 : (w1).cell? ⟨w.heap.size, 1, none⟩ = some (.int .i64 x1) := cell_of_row _ _ 1 _ _ _ HW.out.2.1
  have fc2 : (w1).cell? ⟨w.heap.size, 2, none⟩ = some (.bool x2) := cell_of_row _ _ 2 _ _ _ HW.out.2.1
  have fc3 : (w1).cell? ⟨w.heap.size, 3, none⟩ = some (.bool x3) := cell_of_row _ _ 3 _ _ _ HW.out.2.1
  have fc4 : (w1).cell? ⟨w.heap.size, 4, none⟩ = some (.int .i64 x4) := cell_of_row _ _ 4 _ _ _ HW.out.2.1
  have fc5 : (w1).cell? ⟨w.heap.size, 5, none⟩ = some (.int .i64 x5) := cell_of_row _ _ 5 _ _ _ HW.out.2.1
  have fc6 : (w1).cell? ⟨w.heap.size, 6, none⟩ = some (.int .i64 x6) := cell_of_row _ _ 6 _ _ _ HW.out.2.1
  have fc7 : (w1).cell? ⟨w.heap.size, 7, none⟩ = some (.int .i64 x7) := cell_of_row _ _ 7 _ _ _ HW.out.2.1
  have fc8 : (w1).cell? ⟨w.heap.size, 8, none⟩ = some (.int .i64 x8) := cell_of_row _ _ 8 _ _ _ HW.out.2.1
  have fc9 : (w1).cell? ⟨w.heap.size, 9, none⟩ = some (.slice a0 n0 c0) := cell_of_row _ _ 9 _ _ _ HW.out.2.1
  have fc10 : (w1).cell? ⟨w.heap.size, 10, none⟩ = some (.slice a1 n1 c1) := cell_of_row _ _ 10 _ _ _ HW.out.2.1
  have fe0 : (w1).cell? ⟨w.heap.size + 1, 0, none⟩ = some (.int .i64 x0) := cell_of_row _ _ 0 _ _ _ HW.out.2.2
  have fe1 : (w1).cell? ⟨w.heap.size + 1, 1, none⟩ = some (.int .i64 x1) := cell_of_row _ _ 1 _ _ _ HW.out.2.2
  have fe2 : (w1).cell? ⟨w.heap.size + 1, 2, none⟩ = some (.bool x2) := cell_of_row _ _ 2 _ _ _ HW.out.2.2
  have fe3 : (w1).cell? ⟨w.heap.size + 1, 3, none⟩ = some (.bool x3) := cell_of_row _ _ 3 _ _ _ HW.out.2.2
  have fe4 : (w1).cell? ⟨w.heap.size + 1, 4, none⟩ = some (.int .i64 x4) := cell_of_row _ _ 4 _ _ _ HW.out.2.2
  have fe5 : (w1).cell? ⟨w.heap.size + 1, 5, none⟩ = some (.int .i64 x5) := cell_of_row _ _ 5 _ _ _ HW.out.2.2
  have fe6 : (w1).cell? ⟨w.heap.size + 1, 6, none⟩ = some (.int .i64 x6) := cell_of_row _ _ 6 _ _ _ HW.out.2.2
  have fe7 : (w1).cell? ⟨w.heap.size + 1, 7, none⟩ = some (.int .i64 x7) := cell_of_row _ _ 7 _ _ _ HW.out.2.2
  have fe8 : (w1).cell? ⟨w.heap.size + 1, 8, none⟩ = some (.int .i64 x8) := cell_of_row _ _ 8 _ _ _ HW.out.2.2
  have fe9 : (w1).cell? ⟨w.heap.size + 1, 9, none⟩ = some (.slice b0 n0 d0) := cell_of_row _ _ 9 _ _ _ HW.out.2.2
  have fe10 : (w1).cell? ⟨w.heap.size + 1, 10, none⟩ = some (.slice b1 n1 d1) := cell_of_row _ _ 10 _ _ _ HW.out.2.2
  go_wp2_with fail
  clear fc0 fe0 fc1 fe1 fc2 fe2 fc3 fe3 fc4 fe4 fc5 fe5 fc6 fe6 fc7 fe7 fc8 fe8 fc9 fe9 fc10 fe10
  refine (HF1.out _ HW.out.1.1).mono ?_
  rintro e w2 ⟨rfl, hb⟩
  replace HW := hide (HW.out.next hb)
  clear hb
  have fc0 : (w2).cell? ⟨w.heap.size, 0, none⟩ = some (.int .i64 x0) := cell_of_row _ _ 0 _ _ _ HW.out.2.1
  have fc1 : (w2).cell? ⟨w.heap.size, 1, none⟩ = some (.int .i64 x1) := cell_of_row _ _ 1 _ _ _ HW.out.2.1
  have fc2 : (w2).cell? ⟨w.heap.size, 2, none⟩ = some (.bool x2) := cell_of_row _ _ 2 _ _ _ HW.out.2.1
  have fc3 : (w2).cell? ⟨w.heap.size, 3, none⟩ = some (.bool x3) := cell_of_row _ _ 3 _ _ _ HW.out.2.1
  have fc4 : (w2).cell? ⟨w.heap.size, 4, none⟩ = some (.int .i64 x4) := cell_of_row _ _ 4 _ _ _ HW.out.2.1
  have fc5 : (w2).cell? ⟨w.heap.size, 5, none⟩ = some (.int .i64 x5) := cell_of_row _ _ 5 _ _ _ HW.out.2.1
  have fc6 : (w2).cell? ⟨w.heap.size, 6, none⟩ = some (.int .i64 x6) := cell_of_row _ _ 6 _ _ _ HW.out.2.1
  have fc7 : (w2).cell? ⟨w.heap.size, 7, none⟩ = some (.int .i64 x7) := cell_of_row _ _ 7 _ _ _ HW.out.2.1
  have fc8 : (w2).cell? ⟨w.heap.size, 8, none⟩ = some (.int .i64 x8) := cell_of_row _ _ 8 _ _ _ HW.out.2.1
  have fc9 : (w2).cell? ⟨w.heap.size, 9, none⟩ = some (.slice a0 n0 c0) := cell_of_row _ _ 9 _ _ _ HW.out.2.1
  have fc10 : (w2).cell? ⟨w.heap.size, 10, none⟩ = some (.slice a1 n1 c1) := cell_of_row _ _ 10 _ _ _ HW.out.2.1
  have fe0 : (w2).cell? ⟨w.heap.size + 1, 0, none⟩ = some (.int .i64 x0) := cell_of_row _ _ 0 _ _ _ HW.out.2.2
  have fe1 : (w2).cell? ⟨w.heap.size + 1, 1, none⟩ = some (.int .i64 x1) := cell_of_row _ _ 1 _ _ _ HW.out.2.2
  have fe2 : (w2).cell? ⟨w.heap.size + 1, 2, none⟩ = some (.bool x2) := cell_of_row _ _ 2 _ _ _ HW.out.2.2
  have fe3 : (w2).cell? ⟨w.heap.size + 1, 3, none⟩ = some (.bool x3) := cell_of_row _ _ 3 _ _ _ HW.out.2.2
  have fe4 : (w2).cell? ⟨w.heap.size + 1, 4, none⟩ = some (.int .i64 x4) := cell_of_row _ _ 4 _ _ _ HW.out.2.2
  have fe5 : (w2).cell? ⟨w.heap.size + 1, 5, none⟩ = some (.int .i64 x5) := cell_of_row _ _ 5 _ _ _ HW.out.2.2
  have fe6 : (w2).cell? ⟨w.heap.size + 1, 6, none⟩ = some (.int .i64 x6) := cell_of_row _ _ 6 _ _ _ HW.out.2.2
  have fe7 : (w2).cell? ⟨w.heap.size + 1, 7, none⟩ = some (.int .i64 x7) := cell_of_row _ _ 7 _ _ _ HW.out.2.2
  have fe8 : (w2).cell? ⟨w.heap.size + 1, 8, none⟩ = some (.int .i64 x8) := cell_of_row _ _ 8 _ _ _ HW.out.2.2
  have fe9 : (w2).cell? ⟨w.heap.size + 1, 9, none⟩ = some (.slice b0 n0 d0) := cell_of_row _ _ 9 _ _ _ HW.out.2.2
  have fe10 : (w2).cell? ⟨w.heap.size + 1, 10, none⟩ = some (.slice b1 n1 d1) := cell_of_row _ _ 10 _ _ _ HW.out.2.2
  go_wp2_with fail
  go_ret
  exact ⟨rfl, HW.out.1.1⟩
set_option maxHeartbeats 4000000 in
theorem markPacket_d (w : World) (x0 : Int) (x1 : Int) (x2 : Bool) (x3 : Bool) (x4 : Int) (x5 : Int) (x6 : Int) (x7 : Int) (x8 : Int) (a0 : Option Addr) (n0 c0 : Nat) (a1 : Option Addr) (n1 c1 : Nat) (d0 m0 d1 m1 : D) (K0 K1 K2 : Int) (B : Nat) (bs : List Nat) (hf0 : ∀ (W : World) (f : List Nat), Holds W B d0 (.slice a0 n0 c0) f → f.Nodup → Calls Tryd.prog 14 #[.slice a0 n0 c0, .int .i64 K0] W fun e w' => e = .returned (.int .i64 K1) ∧ Holds w' B m0 (.slice a0 n0 c0) f ∧ Only f W w') (hf1 : ∀ (W : World) (f : List Nat), Holds W B d1 (.slice a1 n1 c1) f → f.Nodup → Calls Tryd.prog 14 #[.slice a1 n1 c1, .int .i64 K1] W fun e w' => e = .returned (.int .i64 K2) ∧ Holds w' B m1 (.slice a1 n1 c1) f ∧ Only f W w') (h : HoldsL w B [d0, d1] [.slice a0 n0 c0, .slice a1 n1 c1] bs) (hnd : bs.Nodup) :
    Calls Tryd.prog 20 #[.agg #[.int .i64 x0, .int .i64 x1, .bool x2, .bool x3, .int .i64 x4, .int .i64 x5, .int .i64 x6, .int .i64 x7, .int .i64 x8, .slice a0 n0 c0, .slice a1 n1 c1], .int .i64 K0] w fun e w' => e = .returned (.int .i64 K2) ∧ HoldsL w' B [m0, m1] [.slice a0 n0 c0, .slice a1 n1 c1] bs ∧ Only bs w w' := by
  obtain ⟨_, _, f0, g0, e0, rfl, h0, r0⟩ := holdsL_cons.1 h
  cases e0
  obtain ⟨_, _, f1, g1, e1, rfl, h1, r1⟩ := holdsL_cons.1 r0
  cases e1
  obtain ⟨_, rfl⟩ := holdsL_nil.1 r1
  have HF0 := hide hf0
  clear hf0
  have HF1 := hide hf1
  clear hf1
  have hal := (Below.refl w.heap.size w).alloc (Nat.le_refl _) (.cells #[.int .i64 x0, .int .i64 x1, .bool x2, .bool x3, .int .i64 x4, .int .i64 x5, .int .i64 x6, .int .i64 x7, .int .i64 x8, .slice a0 n0 c0, .slice a1 n1 c1] 39)
  have HR := hide (Only.of_below (S := f0 ++ (f1 ++ [])) hal)
  have HX := hide (Keep.new w (.cells #[.int .i64 x0, .int .i64 x1, .bool x2, .bool x3, .int .i64 x4, .int .i64 x5, .int .i64 x6, .int .i64 x7, .int .i64 x8, .slice a0 n0 c0, .slice a1 n1 c1] 39))
  have HD0 := hide (Keep.data (holdsL_one h0))
  have HL0 := hide (fun b hb => (Holds.lt _ _ _ h0 b hb).2)
  have HD1 := hide (Keep.data (holdsL_one h1))
  have HL1 := hide (fun b hb => (Holds.lt _ _ _ h1 b hb).2)
  replace HD0 := hide (HD0.out.next hal)
  replace HD1 := hide (HD1.out.next hal)
  have HN := hide hnd
  clear hal h hnd h0 r0 h1 r1
  have fc0 : (w.alloc (.cells #[.int .i64 x0, .int .i64 x1, .bool x2, .bool x3, .int .i64 x4, .int .i64 x5, .int .i64 x6, .int .i64 x7, .int .i64 x8, .slice a0 n0 c0, .slice a1 n1 c1] 39)).cell? ⟨w.heap.size, 0, none⟩ = some (.int .i64 x0) := cell_of_row _ _ 0 _ _ _ HX.out.here
  have fc1 : (w.alloc (.cells #[.int .i64 x0, .int .i64 x1, .bool x2, .bool x3, .int .i64 x4, .int .i64 x5, .int .i64 x6, .int .i64 x7, .int .i64 x8, .slice a0 n0 c0, .slice a1 n1 c1] 39)).cell? ⟨w.heap.size, 1, none⟩ = some (.int .i64 x1) := cell_of_row _ _ 1 _ _ _ HX.out.here
  have fc2 : (w.alloc (.cells #[.int .i64 x0, .int .i64 x1, .bool x2, .bool x3, .int .i64 x4, .int .i64 x5, .int .i64 x6, .int .i64 x7, .int .i64 x8, .slice a0 n0 c0, .slice a1 n1 c1] 39)).cell? ⟨w.heap.size, 2, none⟩ = some (.bool x2) := cell_of_row _ _ 2 _ _ _ HX.out.here
  have fc3 : (w.alloc (.cells #[.int .i64 x0, .int .i64 x1, .bool x2, .bool x3, .int .i64 x4, .int .i64 x5, .int .i64 x6, .int .i64 x7, .int .i64 x8, .slice a0 n0 c0, .slice a1 n1 c1] 39)).cell? ⟨w.heap.size, 3, none⟩ = some (.bool x3) := cell_of_row _ _ 3 _ _ _ HX.out.here
  have fc4 : (w.alloc (.cells #[.int .i64 x0, .int .i64 x1, .bool x2, .bool x3, .int .i64 x4, .int .i64 x5, .int .i64 x6, .int .i64 x7, .int .i64 x8, .slice a0 n0 c0, .slice a1 n1 c1] 39)).cell? ⟨w.heap.size, 4, none⟩ = some (.int .i64 x4) := cell_of_row _ _ 4 _ _ _ HX.out.here
  have fc5 : (w.alloc (.cells #[.int .i64 x0, .int .i64 x1, .bool x2, .bool x3, .int .i64 x4, .int .i64 x5, .int .i64 x6, .int .i64 x7, .int .i64 x8, .slice a0 n0 c0, .slice a1 n1 c1] 39)).cell? ⟨w.heap.size, 5, none⟩ = some (.int .i64 x5) := cell_of_row _ _ 5 _ _ _ HX.out.here
  have fc6 : (w.alloc (.cells #[.int .i64 x0, .int .i64 x1, .bool x2, .bool x3, .int .i64 x4, .int .i64 x5, .int .i64 x6, .int .i64 x7, .int .i64 x8, .slice a0 n0 c0, .slice a1 n1 c1] 39)).cell? ⟨w.heap.size, 6, none⟩ = some (.int .i64 x6) := cell_of_row _ _ 6 _ _ _ HX.out.here
  have fc7 : (w.alloc (.cells #[.int .i64 x0, .int .i64 x1, .bool x2, .bool x3, .int .i64 x4, .int .i64 x5, .int .i64 x6, .int .i64 x7, .int .i64 x8, .slice a0 n0 c0, .slice a1 n1 c1] 39)).cell? ⟨w.heap.size, 7, none⟩ = some (.int .i64 x7) := cell_of_row _ _ 7 _ _ _ HX.out.here
  have fc8 : (w.alloc (.cells #[.int .i64 x0, .int .i64 x1, .bool x2, .bool x3, .int .i64 x4, .int .i64 x5, .int .i64 x6, .int .i64 x7, .int .i64 x8, .slice a0 n0 c0, .slice a1 n1 c1] 39)).cell? ⟨w.heap.size, 8, none⟩ = some (.int .i64 x8) := cell_of_row _ _ 8 _ _ _ HX.out.here
  have fc9 : (w.alloc (.cells #[.int .i64 x0, .int .i64 x1, .bool x2, .bool x3, .int .i64 x4, .int .i64 x5, .int .i64 x6, .int .i64 x7, .int .i64 x8, .slice a0 n0 c0, .slice a1 n1 c1] 39)).cell? ⟨w.heap.size, 9, none⟩ = some (.slice a0 n0 c0) := cell_of_row _ _ 9 _ _ _ HX.out.here
  have fc10 : (w.alloc (.cells #[.int .i64 x0, .int .i64 x1, .bool x2, .bool x3, .int .i64 x4, .int .i64 x5, .int .i64 x6, .int .i64 x7, .int .i64 x8, .slice a0 n0 c0, .slice a1 n1 c1] 39)).cell? ⟨w.heap.size, 10, none⟩ = some (.slice a1 n1 c1) := cell_of_row _ _ 10 _ _ _ HX.out.here
  go_enter Tryd.func20, Tryd.ntmps20
  go_wp2_with fail
  generalize w.alloc (.cells #[.int .i64 x0, .int .i64 x1, .bool x2, .bool x3, .int .i64 x4, .int .i64 x5, .int .i64 x6, .int .i64 x7, .int .i64 x8, .slice a0 n0 c0, .slice a1 n1 c1] 39) = W at *
  clear fc0 fc1 fc2 fc3 fc4 fc5 fc6 fc7 fc8 fc9 fc10
  obtain ⟨_, _, _, _, ee, eb, hh, hr⟩ := holdsL_cons.1 HD0.out.here
  cases ee
  obtain ⟨_, rfl⟩ := holdsL_nil.1 hr
  rw [List.append_nil, List.append_nil] at eb
  subst eb
  refine (HF0.out _ _ hh (nodup_left HN.out)).mono ?_
  rintro e w1 ⟨rfl, hm, hon⟩
  clear hh hr
  replace HX := hide (HX.out.only hon (fun b hb hc => by have h1 := List.mem_singleton.1 hb; have h2 := HL0.out b hc; omega))
  replace HD1 := hide (HD1.out.only hon (fun b hb hc => nodup_apart HN.out b (by simp only [List.append_nil] at hb; simp [hb]) hc))
  replace HD0 := hide (Keep.data (holdsL_one hm))
  replace HR := hide (HR.out.trans (hon.mono (fun b hb => by simp [hb])))
  clear hm hon
  have fc0 : (w1).cell? ⟨w.heap.size, 0, none⟩ = some (.int .i64 x0) := cell_of_row _ _ 0 _ _ _ HX.out.here
  have fc1 : (w1).cell? ⟨w.heap.size, 1, none⟩ = some (.int .i64 x1) := cell_of_row _ _ 1 _ _ _ HX.out.here
  have fc2 : (w1).cell? ⟨w.heap.size, 2, none⟩ = some (.bool x2) := cell_of_row _ _ 2 _ _ _ HX.out.here
  have fc3 : (w1).cell? ⟨w.heap.size, 3, none⟩ = some (.bool x3) := cell_of_row _ _ 3 _ _ _ HX.out.here
  have fc4 : (w1).cell? ⟨w.heap.size, 4, none⟩ = some (.int .i64 x4) := cell_of_row _ _ 4 _ _ _ HX.out.here
  have fc5 : (w1).cell? ⟨w.heap.size, 5, none⟩ = some (.int .i64 x5) := cell_of_row _ _ 5 _ _ _ HX.out.here
  have fc6 : (w1).cell? ⟨w.heap.size, 6, none⟩ = some (.int .i64 x6) := cell_of_row _ _ 6 _ _ _ HX.out.here
  have fc7 : (w1).cell? ⟨w.heap.size, 7, none⟩ = some (.int .i64 x7) := cell_of_row _ _ 7 _ _ _ HX.out.here
  have fc8 : (w1).cell? ⟨w.heap.size, 8, none⟩ = some (.int .i64 x8) := cell_of_row _ _ 8 _ _ _ HX.out.here
  have fc9 : (w1).cell? ⟨w.heap.size, 9, none⟩ = some (.slice a0 n0 c0) := cell_of_row _ _ 9 _ _ _ HX.out.here
  have fc10 : (w1).cell? ⟨w.heap.size, 10, none⟩ = some (.slice a1 n1 c1) := cell_of_row _ _ 10 _ _ _ HX.out.here
  go_wp2_with fail
  clear fc0 fc1 fc2 fc3 fc4 fc5 fc6 fc7 fc8 fc9 fc10
  obtain ⟨_, _, _, _, ee, eb, hh, hr⟩ := holdsL_cons.1 HD1.out.here
  cases ee
  obtain ⟨_, rfl⟩ := holdsL_nil.1 hr
  rw [List.append_nil, List.append_nil] at eb
  subst eb
  refine (HF1.out _ _ hh (nodup_left (nodup_right HN.out))).mono ?_
  rintro e w2 ⟨rfl, hm, hon⟩
  clear hh hr
  replace HX := hide (HX.out.only hon (fun b hb hc => by have h1 := List.mem_singleton.1 hb; have h2 := HL1.out b hc; omega))
  replace HD0 := hide (HD0.out.only hon (fun b hb hc => nodup_apart HN.out b (by simp [hc]) (by simpa using hb)))
  replace HD1 := hide (Keep.data (holdsL_one hm))
  replace HR := hide (HR.out.trans (hon.mono (fun b hb => by simp [hb])))
  clear hm hon
  have fc0 : (w2).cell? ⟨w.heap.size, 0, none⟩ = some (.int .i64 x0) := cell_of_row _ _ 0 _ _ _ HX.out.here
  have fc1 : (w2).cell? ⟨w.heap.size, 1, none⟩ = some (.int .i64 x1) := cell_of_row _ _ 1 _ _ _ HX.out.here
  have fc2 : (w2).cell? ⟨w.heap.size, 2, none⟩ = some (.bool x2) := cell_of_row _ _ 2 _ _ _ HX.out.here
  have fc3 : (w2).cell? ⟨w.heap.size, 3, none⟩ = some (.bool x3) := cell_of_row _ _ 3 _ _ _ HX.out.here
  have fc4 : (w2).cell? ⟨w.heap.size, 4, none⟩ = some (.int .i64 x4) := cell_of_row _ _ 4 _ _ _ HX.out.here
  have fc5 : (w2).cell? ⟨w.heap.size, 5, none⟩ = some (.int .i64 x5) := cell_of_row _ _ 5 _ _ _ HX.out.here
  have fc6 : (w2).cell? ⟨w.heap.size, 6, none⟩ = some (.int .i64 x6) := cell_of_row _ _ 6 _ _ _ HX.out.here
  have fc7 : (w2).cell? ⟨w.heap.size, 7, none⟩ = some (.int .i64 x7) := cell_of_row _ _ 7 _ _ _ HX.out.here
  have fc8 : (w2).cell? ⟨w.heap.size, 8, none⟩ = some (.int .i64 x8) := cell_of_row _ _ 8 _ _ _ HX.out.here
  have fc9 : (w2).cell? ⟨w.heap.size, 9, none⟩ = some (.slice a0 n0 c0) := cell_of_row _ _ 9 _ _ _ HX.out.here
  have fc10 : (w2).cell? ⟨w.heap.size, 10, none⟩ = some (.slice a1 n1 c1) := cell_of_row _ _ 10 _ _ _ HX.out.here
  go_wp2_with fail
  go_ret
  obtain ⟨_, _, _, _, ee, eb, hh0, hr⟩ := holdsL_cons.1 HD0.out.here
  cases ee
  obtain ⟨_, rfl⟩ := holdsL_nil.1 hr
  rw [List.append_nil, List.append_nil] at eb
  subst eb
  obtain ⟨_, _, _, _, ee, eb, hh1, hr⟩ := holdsL_cons.1 HD1.out.here
  cases ee
  obtain ⟨_, rfl⟩ := holdsL_nil.1 hr
  rw [List.append_nil, List.append_nil] at eb
  subst eb
  exact ⟨rfl, holdsL_cons.2 ⟨_, _, _, _, rfl, rfl, hh0, holdsL_cons.2 ⟨_, _, _, _, rfl, rfl, hh1, holdsL_nil.2 ⟨rfl, rfl⟩⟩⟩, HR.out⟩
set_option maxHeartbeats 4000000 in
theorem heldPacket_d (w : World) (x0 : Int) (x1 : Int) (x2 : Bool) (x3 : Bool) (x4 : Int) (x5 : Int) (x6 : Int) (x7 : Int) (x8 : Int) (a0 : Option Addr) (n0 c0 : Nat) (a1 : Option Addr) (n1 c1 : Nat) (m0 m1 : D) (K0 K1 K2 : Int) (B : Nat) (bs : List Nat) (hk1 : 0 ≤ K1) (hf0 : ∀ (W : World) (f : List Nat), Holds W B m0 (.slice a0 n0 c0) f → Calls Tryd.prog 35 #[.slice a0 n0 c0, .int .i64 K0] W fun e w' => e = .returned (.int .i64 K1) ∧ Below W.heap.size W w') (hk2 : 0 ≤ K2) (hf1 : ∀ (W : World) (f : List Nat), Holds W B m1 (.slice a1 n1 c1) f → Calls Tryd.prog 35 #[.slice a1 n1 c1, .int .i64 K1] W fun e w' => e = .returned (.int .i64 K2) ∧ Below W.heap.size W w') (h : HoldsL w B [m0, m1] [.slice a0 n0 c0, .slice a1 n1 c1] bs) :
    Calls Tryd.prog 21 #[.agg #[.int .i64 x0, .int .i64 x1, .bool x2, .bool x3, .int .i64 x4, .int .i64 x5, .int .i64 x6, .int .i64 x7, .int .i64 x8, .slice a0 n0 c0, .slice a1 n1 c1], .int .i64 K0] w fun e w' => e = .returned (.int .i64 K2) ∧ Below w.heap.size w w' := by
  obtain ⟨_, _, f0, g0, e0, rfl, h0, r0⟩ := holdsL_cons.1 h
  cases e0
  obtain ⟨_, _, f1, g1, e1, rfl, h1, r1⟩ := holdsL_cons.1 r0
  cases e1
  have HF0 := hide hf0
  clear hf0
  have HF1 := hide hf1
  clear hf1
  have hal := (Below.refl w.heap.size w).alloc (Nat.le_refl _) (.cells #[.int .i64 x0, .int .i64 x1, .bool x2, .bool x3, .int .i64 x4, .int .i64 x5, .int .i64 x6, .int .i64 x7, .int .i64 x8, .slice a0 n0 c0, .slice a1 n1 c1] 39)
  have HW := hide hal
  have HX := hide (Keep.new w (.cells #[.int .i64 x0, .int .i64 x1, .bool x2, .bool x3, .int .i64 x4, .int .i64 x5, .int .i64 x6, .int .i64 x7, .int .i64 x8, .slice a0 n0 c0, .slice a1 n1 c1] 39))
  have HD0 := hide (Holds.next h0 hal)
  have HD1 := hide (Holds.next h1 hal)
  clear hal h h0 r0 h1 r1
  have fc0 : (w.alloc (.cells #[.int .i64 x0, .int .i64 x1, .bool x2, .bool x3, .int .i64 x4, .int .i64 x5, .int .i64 x6, .int .i64 x7, .int .i64 x8, .slice a0 n0 c0, .slice a1 n1 c1] 39)).cell? ⟨w.heap.size, 0, none⟩ = some (.int .i64 x0) := cell_of_row _ _ 0 _ _ _ HX.out.here
  have fc1 : (w.alloc (.cells #[.int .i64 x0, .int .i64 x1, .bool x2, .bool x3, .int .i64 x4, .int .i64 x5, .int .i64 x6, .int .i64 x7, .int .i64 x8, .slice a0 n0 c0, .slice a1 n1 c1] 39)).cell? ⟨w.heap.size, 1, none⟩ = some (.int .i64 x1) := cell_of_row _ _ 1 _ _ _ HX.out.here
  have fc2 : (w.alloc (.cells #[.int .i64 x0, .int .i64 x1, .bool x2, .bool x3, .int .i64 x4, .int .i64 x5, .int .i64 x6, .int .i64 x7, .int .i64 x8, .slice a0 n0 c0, .slice a1 n1 c1] 39)).cell? ⟨w.heap.size, 2, none⟩ = some (.bool x2) := cell_of_row _ _ 2 _ _ _ HX.out.here
  have fc3 : (w.alloc (.cells #[.int .i64 x0, .int .i64 x1, .bool x2, .bool x3, .int .i64 x4, .int .i64 x5, .int .i64 x6, .int .i64 x7, .int .i64 x8, .slice a0 n0 c0, .slice a1 n1 c1] 39)).cell? ⟨w.heap.size, 3, none⟩ = some (.bool x3) := cell_of_row _ _ 3 _ _ _ HX.out.here
  have fc4 : (w.alloc (.cells #[.int .i64 x0, .int .i64 x1, .bool x2, .bool x3, .int .i64 x4, .int .i64 x5, .int .i64 x6, .int .i64 x7, .int .i64 x8, .slice a0 n0 c0, .slice a1 n1 c1] 39)).cell? ⟨w.heap.size, 4, none⟩ = some (.int .i64 x4) := cell_of_row _ _ 4 _ _ _ HX.out.here
  have fc5 : (w.alloc (.cells #[.int .i64 x0, .int .i64 x1, .bool x2, .bool x3, .int .i64 x4, .int .i64 x5, .int .i64 x6, .int .i64 x7, .int .i64 x8, .slice a0 n0 c0, .slice a1 n1 c1] 39)).cell? ⟨w.heap.size, 5, none⟩ = some (.int .i64 x5) := cell_of_row _ _ 5 _ _ _ HX.out.here
  have fc6 : (w.alloc (.cells #[.int .i64 x0, .int .i64 x1, .bool x2, .bool x3, .int .i64 x4, .int .i64 x5, .int .i64 x6, .int .i64 x7, .int .i64 x8, .slice a0 n0 c0, .slice a1 n1 c1] 39)).cell? ⟨w.heap.size, 6, none⟩ = some (.int .i64 x6) := cell_of_row _ _ 6 _ _ _ HX.out.here
  have fc7 : (w.alloc (.cells #[.int .i64 x0, .int .i64 x1, .bool x2, .bool x3, .int .i64 x4, .int .i64 x5, .int .i64 x6, .int .i64 x7, .int .i64 x8, .slice a0 n0 c0, .slice a1 n1 c1] 39)).cell? ⟨w.heap.size, 7, none⟩ = some (.int .i64 x7) := cell_of_row _ _ 7 _ _ _ HX.out.here
  have fc8 : (w.alloc (.cells #[.int .i64 x0, .int .i64 x1, .bool x2, .bool x3, .int .i64 x4, .int .i64 x5, .int .i64 x6, .int .i64 x7, .int .i64 x8, .slice a0 n0 c0, .slice a1 n1 c1] 39)).cell? ⟨w.heap.size, 8, none⟩ = some (.int .i64 x8) := cell_of_row _ _ 8 _ _ _ HX.out.here
  have fc9 : (w.alloc (.cells #[.int .i64 x0, .int .i64 x1, .bool x2, .bool x3, .int .i64 x4, .int .i64 x5, .int .i64 x6, .int .i64 x7, .int .i64 x8, .slice a0 n0 c0, .slice a1 n1 c1] 39)).cell? ⟨w.heap.size, 9, none⟩ = some (.slice a0 n0 c0) := cell_of_row _ _ 9 _ _ _ HX.out.here
  have fc10 : (w.alloc (.cells #[.int .i64 x0, .int .i64 x1, .bool x2, .bool x3, .int .i64 x4, .int .i64 x5, .int .i64 x6, .int .i64 x7, .int .i64 x8, .slice a0 n0 c0, .slice a1 n1 c1] 39)).cell? ⟨w.heap.size, 10, none⟩ = some (.slice a1 n1 c1) := cell_of_row _ _ 10 _ _ _ HX.out.here
  go_enter Tryd.func21, Tryd.ntmps21
  go_wp2_with fail
  generalize w.alloc (.cells #[.int .i64 x0, .int .i64 x1, .bool x2, .bool x3, .int .i64 x4, .int .i64 x5, .int .i64 x6, .int .i64 x7, .int .i64 x8, .slice a0 n0 c0, .slice a1 n1 c1] 39) = W at *
  clear fc0 fc1 fc2 fc3 fc4 fc5 fc6 fc7 fc8 fc9 fc10
  refine (HF0.out _ _ HD0.out).mono ?_
  rintro e w1 ⟨rfl, hb⟩
  replace HX := hide (HX.out.next hb)
  replace HW := hide (below_on HW.out hb)
  replace HD0 := hide (Holds.next HD0.out hb)
  replace HD1 := hide (Holds.next HD1.out hb)
  clear hb
  have fc0 : (w1).cell? ⟨w.heap.size, 0, none⟩ = some (.int .i64 x0) := cell_of_row _ _ 0 _ _ _ HX.out.here
  have fc1 : (w1).cell? ⟨w.heap.size, 1, none⟩ = some (.int .i64 x1) := cell_of_row _ _ 1 _ _ _ HX.out.here
  have fc2 : (w1).cell? ⟨w.heap.size, 2, none⟩ = some (.bool x2) := cell_of_row _ _ 2 _ _ _ HX.out.here
  have fc3 : (w1).cell? ⟨w.heap.size, 3, none⟩ = some (.bool x3) := cell_of_row _ _ 3 _ _ _ HX.out.here
  have fc4 : (w1).cell? ⟨w.heap.size, 4, none⟩ = some (.int .i64 x4) := cell_of_row _ _ 4 _ _ _ HX.out.here
  have fc5 : (w1).cell? ⟨w.heap.size, 5, none⟩ = some (.int .i64 x5) := cell_of_row _ _ 5 _ _ _ HX.out.here
  have fc6 : (w1).cell? ⟨w.heap.size, 6, none⟩ = some (.int .i64 x6) := cell_of_row _ _ 6 _ _ _ HX.out.here
  have fc7 : (w1).cell? ⟨w.heap.size, 7, none⟩ = some (.int .i64 x7) := cell_of_row _ _ 7 _ _ _ HX.out.here
  have fc8 : (w1).cell? ⟨w.heap.size, 8, none⟩ = some (.int .i64 x8) := cell_of_row _ _ 8 _ _ _ HX.out.here
  have fc9 : (w1).cell? ⟨w.heap.size, 9, none⟩ = some (.slice a0 n0 c0) := cell_of_row _ _ 9 _ _ _ HX.out.here
  have fc10 : (w1).cell? ⟨w.heap.size, 10, none⟩ = some (.slice a1 n1 c1) := cell_of_row _ _ 10 _ _ _ HX.out.here
  go_wp2_with fail
  clear fc0 fc1 fc2 fc3 fc4 fc5 fc6 fc7 fc8 fc9 fc10
  refine (HF1.out _ _ HD1.out).mono ?_
  rintro e w2 ⟨rfl, hb⟩
  replace HX := hide (HX.out.next hb)
  replace HW := hide (below_on HW.out hb)
  replace HD0 := hide (Holds.next HD0.out hb)
  replace HD1 := hide (Holds.next HD1.out hb)
  clear hb
  have fc0 : (w2).cell? ⟨w.heap.size, 0, none⟩ = some (.int .i64 x0) := cell_of_row _ _ 0 _ _ _ HX.out.here
  have fc1 : (w2).cell? ⟨w.heap.size, 1, none⟩ = some (.int .i64 x1) := cell_of_row _ _ 1 _ _ _ HX.out.here
  have fc2 : (w2).cell? ⟨w.heap.size, 2, none⟩ = some (.bool x2) := cell_of_row _ _ 2 _ _ _ HX.out.here
  have fc3 : (w2).cell? ⟨w.heap.size, 3, none⟩ = some (.bool x3) := cell_of_row _ _ 3 _ _ _ HX.out.here
  have fc4 : (w2).cell? ⟨w.heap.size, 4, none⟩ = some (.int .i64 x4) := cell_of_row _ _ 4 _ _ _ HX.out.here
  have fc5 : (w2).cell? ⟨w.heap.size, 5, none⟩ = some (.int .i64 x5) := cell_of_row _ _ 5 _ _ _ HX.out.here
  have fc6 : (w2).cell? ⟨w.heap.size, 6, none⟩ = some (.int .i64 x6) := cell_of_row _ _ 6 _ _ _ HX.out.here
  have fc7 : (w2).cell? ⟨w.heap.size, 7, none⟩ = some (.int .i64 x7) := cell_of_row _ _ 7 _ _ _ HX.out.here
  have fc8 : (w2).cell? ⟨w.heap.size, 8, none⟩ = some (.int .i64 x8) := cell_of_row _ _ 8 _ _ _ HX.out.here
  have fc9 : (w2).cell? ⟨w.heap.size, 9, none⟩ = some (.slice a0 n0 c0) := cell_of_row _ _ 9 _ _ _ HX.out.here
  have fc10 : (w2).cell? ⟨w.heap.size, 10, none⟩ = some (.slice a1 n1 c1) := cell_of_row _ _ 10 _ _ _ HX.out.here
  go_wp2_with fail
  go_ret
  exact ⟨rfl, HW.out⟩
set_option maxHeartbeats 4000000 in
theorem eqQuote_d (w : World) (x0 : Int) (x1 : Int) (x2 : Int) (x3 : Int) (x4 : Int) (x5 : Int) (x6 : Int)    :
    Calls Tryd.prog 9 #[.agg #[.int .i64 x0, .int .i64 x1, .int .i64 x2, .int .i64 x3, .int .i64 x4, .int .i64 x5, .int .i64 x6], .agg #[.int .i64 x0, .int .i64 x1, .int .i64 x2, .int .i64 x3, .int .i64 x4, .int .i64 x5, .int .i64 x6]] w fun e w' => e = .returned (.bool true) ∧ Below w.heap.size w w' := by
  have HW := hide (TwoB.start w (.cells #[.int .i64 x0, .int .i64 x1, .int .i64 x2, .int .i64 x3, .int .i64 x4, .int .i64 x5, .int .i64 x6] 24) (.cells #[.int .i64 x0, .int .i64 x1, .int .i64 x2, .int .i64 x3, .int .i64 x4, .int .i64 x5, .int .i64 x6] 24))
  have fc0 : ((w.alloc (.cells #[.int .i64 x0, .int .i64 x1, .int .i64 x2, .int .i64 x3, .int .i64 x4, .int .i64 x5, .int .i64 x6] 24)).alloc (.cells #[.int .i64 x0, .int .i64 x1, .int .i64 x2, .int .i64 x3, .int .i64 x4, .int .i64 x5, .int .i64 x6] 24)).cell? ⟨w.heap.size, 0, none⟩ = some (.int .i64 x0) := cell_of_row _ _ 0 _ _ _ HW.out.2.1
  have fc1 : ((w.alloc (.cells #[.int .i64 x0, .int .i64 x1, .int .i64 x2, .int .i64 x3, .int .i64 x4, .int .i64 x5, .int .i64 x6] 24)).alloc (.cells #[.int .i64 x0, .int .i64 x1, .int .i64 x2, .int .i64 x3, .int .i64 x4, .int .i64 x5, .int .i64 x6] 24)).cell? ⟨w.heap.size, 1, none⟩ = some (.int .i64 x1) := cell_of_row _ _ 1 _ _ _ HW.out.2.1
  have fc2 : ((w.alloc (.cells #[.int .i64 x0, .int .i64 x1, .int .i64 x2, .int .i64 x3, .int .i64 x4, .int .i64 x5, .int .i64 x6] 24)).alloc (.cells #[.int .i64 x0, .int .i64 x1, .int .i64 x2, .int .i64 x3, .int .i64 x4, .int .i64 x5, .int .i64 x6] 24)).cell? ⟨w.heap.size, 2, none⟩ = some (.int .i64 x2) := cell_of_row _ _ 2 _ _ _ HW.out.2.1
  have fc3 : ((w.alloc (.cells #[.int .i64 x0, .int .i64 x1, .int .i64 x2, .int .i64 x3, .int .i64 x4, .int .i64 x5, .int .i64 x6] 24)).alloc (.cells #[.int .i64 x0, .int .i64 x1, .int .i64 x2, .int .i64 x3, .int .i64 x4, .int .i64 x5, .int .i64 x6] 24)).cell? ⟨w.heap.size, 3, none⟩ = some (.int .i64 x3) := cell_of_row _ _ 3 _ _ _ HW.out.2.1
  have fc4 : ((w.alloc (.cells #[.int .i64 x0, .int .i64 x1, .int .i64 x2, .int .i64 x3, .int .i64 x4, .int .i64 x5, .int .i64 x6] 24)).alloc (.cells #[.int .i64 x0, .int .i64 x1, .int .i64 x2, .int .i64 x3, .int .i64 x4, .int .i64 x5, .int .i64 x6] 24)).cell? ⟨w.heap.size, 4, none⟩ = some (.int .i64 x4) := cell_of_row _ _ 4 _ _ _ HW.out.2.1
  have fc5 : ((w.alloc (.cells #[.int .i64 x0, .int .i64 x1, .int .i64 x2, .int .i64 x3, .int .i64 x4, .int .i64 x5, .int .i64 x6] 24)).alloc (.cells #[.int .i64 x0, .int .i64 x1, .int .i64 x2, .int .i64 x3, .int .i64 x4, .int .i64 x5, .int .i64 x6] 24)).cell? ⟨w.heap.size, 5, none⟩ = some (.int .i64 x5) := cell_of_row _ _ 5 _ _ _ HW.out.2.1
  have fc6 : ((w.alloc (.cells #[.int .i64 x0, .int .i64 x1, .int .i64 x2, .int .i64 x3, .int .i64 x4, .int .i64 x5, .int .i64 x6] 24)).alloc (.cells #[.int .i64 x0, .int .i64 x1, .int .i64 x2, .int .i64 x3, .int .i64 x4, .int .i64 x5, .int .i64 x6] 24)).cell? ⟨w.heap.size, 6, none⟩ = some (.int .i64 x6) := cell_of_row _ _ 6 _ _ _ HW.out.2.1
  have fe0 : ((w.alloc (.cells #[.int .i64 x0, .int .i64 x1, .int .i64 x2, .int .i64 x3, .int .i64 x4, .int .i64 x5, .int .i64 x6] 24)).alloc (.cells #[.int .i64 x0, .int .i64 x1, .int .i64 x2, .int .i64 x3, .int .i64 x4, .int .i64 x5, .int .i64 x6] 24)).cell? ⟨w.heap.size + 1, 0, none⟩ = some (.int .i64 x0) := cell_of_row _ _ 0 _ _ _ HW.out.2.2
  have fe1 : ((w.alloc (.cells #[.int .i64 x0, .int .i64 x1, .int .i64 x2, .int .i64 x3, .int .i64 x4, .int .i64 x5, .int .i64 x6] 24)).alloc (.cells #[.int .i64 x0, .int .i64 x1, .int .i64 x2, .int .i64 x3, .int .i64 x4, .int .i64 x5, .int .i64 x6] 24)).cell? ⟨w.heap.size + 1, 1, none⟩ = some (.int .i64 x1) := cell_of_row _ _ 1 _ _ _ HW.out.2.2
  have fe2 : ((w.alloc (.cells #[.int .i64 x0, .int .i64 x1, .int .i64 x2, .int .i64 x3, .int .i64 x4, .int .i64 x5, .int .i64 x6] 24)).alloc (.cells #[.int .i64 x0, .int .i64 x1, .int .i64 x2, .int .i64 x3, .int .i64 x4, .int .i64 x5, .int .i64 x6] 24)).cell? ⟨w.heap.size + 1, 2, none⟩ = some (.int .i64 x2) := cell_of_row _ _ 2 _ _ _ HW.out.2.2
  have fe3 : ((w.alloc (.cells #[.int .i64 x0, .int .i64 x1, .int .i64 x2, .int .i64 x3, .int .i64 x4, .int .i64 x5, .int .i64 x6] 24)).alloc (.cells #[.int .i64 x0, .int .i64 x1, .int .i64 x2, .int .i64 x3, .int .i64 x4, .int .i64 x5, .int .i64 x6] 24)).cell? ⟨w.heap.size + 1, 3, none⟩ = some (.int .i64 x3) := cell_of_row _ _ 3 _ _ _ HW.out.2.2
  have fe4 : ((w.alloc (.cells #[.int .i64 x0, .int .i64 x1, .int .i64 x2, .int .i64 x3, .int .i64 x4, .int .i64 x5, .int .i64 x6] 24)).alloc (.cells #[.int .i64 x0, .int .i64 x1, .int .i64 x2, .int .i64 x3, .int .i64 x4, .int .i64 x5, .int .i64 x6] 24)).cell? ⟨w.heap.size + 1, 4, none⟩ = some (.int .i64 x4) := cell_of_row _ _ 4 _ _ _ HW.out.2.2
  have fe5 : ((w.alloc (.cells #[.int .i64 x0, .int .i64 x1, .int .i64 x2, .int .i64 x3, .int .i64 x4, .int .i64 x5, .int .i64 x6] 24)).alloc (.cells #[.int .i64 x0, .int .i64 x1, .int .i64 x2, .int .i64 x3, .int .i64 x4, .int .i64 x5, .int .i64 x6] 24)).cell? ⟨w.heap.size + 1, 5, none⟩ = some (.int .i64 x5) := cell_of_row _ _ 5 _ _ _ HW.out.2.2
  have fe6 : ((w.alloc (.cells #[.int .i64 x0, .int .i64 x1, .int .i64 x2, .int .i64 x3, .int .i64 x4, .int .i64 x5, .int .i64 x6] 24)).alloc (.cells #[.int .i64 x0, .int .i64 x1, .int .i64 x2, .int .i64 x3, .int .i64 x4, .int .i64 x5, .int .i64 x6] 24)).cell? ⟨w.heap.size + 1, 6, none⟩ = some (.int .i64 x6) := cell_of_row _ _ 6 _ _ _ HW.out.2.2
  go_enter Tryd.func9, Tryd.ntmps9
  go_wp2_with fail
  go_ret
  exact ⟨rfl, HW.out.1.1⟩
end Go.Proofs.YtakoagfeiolkjaaDoor
