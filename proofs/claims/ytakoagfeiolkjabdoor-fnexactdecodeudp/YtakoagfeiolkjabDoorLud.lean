/-
Contracts of functions of this seat.
-/
import Derived.Test.YtakoagfeiolkjabDoorRows
import Derived.WalkKit
import Derived.ProofKit
import Derived.OpenShut
import Derived.Test.YtakoagfeiolkjabDoorLkp
import Derived.Test.YtakoagfeiolkjabDoorUds
namespace Go.Proofs.YtakoagfeiolkjabDoor
open Go.ChangeShapes Go.WideShapes Go.ChangeAt Go.RowKit
set_option linter.unusedVariables false
set_option maxRecDepth 100000
/-- The numbers that lie as bytes from a on, whatever they are. -/
def ArrV (w : World) (a : Option Addr) (zs : List Int) : Prop := ∀ j, j < zs.length → ∃ b off, a = some ⟨b, off, none⟩ ∧ b < w.heap.size ∧ w.cell? ⟨b, off + j, none⟩ = some (.int .u8 (zs.getD j 0))
theorem bytes_arrV {w : World} {B : Nat} {zs : List Int} {a : Option Addr} {n cap : Nat} {bs : List Nat} (h : Holds w B (bytesD zs) (.slice a n cap) bs) : ArrV w a zs ∧ zs.length = n ∧ n ≤ cap := by
  rcases Holds.form h with ⟨e, h0, _⟩ | ⟨g, off, cap', e, hB, hg, hc, hl⟩
  · cases e
    exact ⟨fun j hj => by omega, h0, Nat.le_refl _⟩
  · cases e
    exact ⟨fun j hj => ⟨g, off, rfl, hg, Holds.cell h (byD_get zs j hj)⟩, rfl, hc⟩
theorem bytes_read {w : World} {B : Nat} {zs : List Int} {a : Option Addr} {n cap : Nat} {bs : List Nat} (h : Holds w B (bytesD zs) (.slice a n cap) bs) (hz : ∀ z ∈ zs, 0 ≤ z ∧ z ≤ 255) : Arr w a zs ∧ zs.length = n ∧ n ≤ cap :=
  ⟨⟨hz, (bytes_arrV h).1⟩, (bytes_arrV h).2⟩
set_option maxHeartbeats 1000000 in
theorem eqB_v (a b : Option Addr) (n c1 c2 : Nat) (zs : List Int) (w : World) (hn : zs.length = n) (ha : ArrV w a zs) (hb : ArrV w b zs) (hm : n ≤ 1048576) :
    Calls Tryd.prog 12 #[.slice a n c1, .slice b n c2] w fun e w' => e = .returned (.bool true) ∧ Below w.heap.size w w' := by
  have HN := hide hn
  have HA := hide ha
  have HB := hide hb
  clear hn ha hb
  go_enter Tryd.func12, Tryd.ntmps12
  go_wp2_with fail
  go_loopw [5] (fun t w2 => ∃ k : Nat, k ≤ n ∧ t = .int .i64 k ∧ Below w.heap.size w w2) (fun t _ => n - (intOf t).toNat)
  case atStart => exact ⟨0, Nat.zero_le _, rfl, Below.refl _ _⟩
  case round =>
    obtain ⟨k, hk, rfl, hbel⟩ := hrel
    by_cases hlt : k < n
    · obtain ⟨b1, o1, rfl, hb1, hc1⟩ := HA.out k (by rw [HN.out]; exact hlt)
      obtain ⟨b2, o2, rfl, hb2, hc2⟩ := HB.out k (by rw [HN.out]; exact hlt)
      have g1 : wr.cell? ⟨b1, o1 + k, none⟩ = some (.int .u8 (zs.getD k 0)) := by rw [hbel.cell (p := ⟨b1, o1 + k, none⟩) hb1]; exact hc1
      have g2 : wr.cell? ⟨b2, o2 + k, none⟩ = some (.int .u8 (zs.getD k 0)) := by rw [hbel.cell (p := ⟨b2, o2 + k, none⟩) hb2]; exact hc2
      clear hc1 hc2
      generalize zs.getD k 0 = z at g1 g2
      go_wp2
      go_quiet (fail)
      go_wp2
      exact ⟨⟨k + 1, by omega, by go_num, below_drewN hbel nq⟩, by simp [intOf]; omega⟩
    · go_wp2
      go_ret
      exact ⟨rfl, hbel⟩
theorem eqB_d (zs : List Int) (a b : Option Addr) (n c d : Nat) (B1 B2 : Nat) (f1 f2 : List Nat) (w : World) (h1 : Holds w B1 (bytesD zs) (.slice a n c) f1) (h2 : Holds w B2 (bytesD zs) (.slice b n d) f2) (hm : n ≤ 1048576) :
    Calls Tryd.prog 12 #[.slice a n c, .slice b n d] w fun e w' => e = .returned (.bool true) ∧ Below w.heap.size w w' :=
  eqB_v a b n c d zs w (bytes_arrV h1).2.1 (bytes_arrV h1).1 (bytes_arrV h2).1 hm
theorem toB_d (zs : List Int) (a : Option Addr) (n cap : Nat) (w : World) (hn : zs.length = n) (h : Arr w a zs) (hm : n ≤ 1048576) :
    Calls Tryd.prog 18 #[.slice a n cap] w fun e w' => ∃ (a' : Option Addr) (k' : Nat) (f : List Nat), e = .returned (.slice a' n k') ∧ Holds w' w.heap.size (bytesD zs) (.slice a' n k') f ∧ f.Nodup ∧ Below w.heap.size w w' := by
  refine (toByteS_own a n cap zs w hn h hm).mono ?_
  rintro e w' ⟨rfl, hO, hb⟩
  exact ⟨_, _, _, rfl, bytes_own hO, by simp [Value.ownBlock], hb⟩
theorem markB_d (zs : List Int) (a : Option Addr) (n c B : Nat) (bs : List Nat) (k : Nat) (w : World) (h : Holds w B (bytesD zs) (.slice a n c) bs) (hnd : bs.Nodup) (hk : k + n ≤ 1073741824) :
    Calls Tryd.prog 15 #[.slice a n c, .int .i64 (k : Int)] w fun e w' => e = .returned (.int .i64 ((k + n : Nat) : Int)) ∧ Holds w' B (mkD k (bytesD zs)) (.slice a n c) bs ∧ Only bs w w' := by
  have hn := (bytes_arrV h).2.1
  subst hn
  exact markByteS_d zs _ B bs k w h hnd hk
theorem heldB_d (zs : List Int) (a : Option Addr) (n c B : Nat) (bs : List Nat) (k : Nat) (w : World) (hn : zs.length = n) (h : Holds w B (mkD k (bytesD zs)) (.slice a n c) bs) (hk : k + n ≤ 1073741824) :
    Calls Tryd.prog 16 #[.slice a n c, .int .i64 (k : Int)] w fun e w' => e = .returned (.int .i64 ((k + n : Nat) : Int)) ∧ Below w.heap.size w w' := by
  subst hn
  refine (heldByteS_d zs _ B bs k w h hk).mono ?_
  rintro e w' ⟨rfl, rfl⟩
  exact ⟨rfl, Below.refl _ _⟩
theorem own_holds {w : World} {B : Nat} {v : Value} {zs : List Int} (h : OwnB w B v zs) : ∃ (a : Option Addr) (c : Nat), v = .slice a zs.length c ∧ Holds w B (bytesD zs) (.slice a zs.length c) v.ownBlock.toList := by
  obtain ⟨a, c, rfl, _⟩ := own_slice h
  exact ⟨a, c, rfl, bytes_own h⟩
theorem own_nodup (v : Value) : (v.ownBlock.toList).Nodup := by cases v.ownBlock <;> simp
theorem own_apart {u v : Value} (h : ∀ b, u.ownBlock = some b → v.ownBlock ≠ some b) : (u.ownBlock.toList ++ v.ownBlock.toList).Nodup := by
  rw [List.nodup_append]
  refine ⟨own_nodup u, own_nodup v, fun x hx y hy e => ?_⟩
  subst e
  exact h x (by simpa using hx) (by simpa using hy)

set_option maxHeartbeats 4000000 in
theorem eqDatagram_d (w : World) (x0 : Int) (x1 : Int) (a0 : Option Addr) (n0 c0 : Nat) (b0 : Option Addr) (d0 : Nat) (hf0 : ∀ (W : World), Below w.heap.size w W → Calls Tryd.prog 12 #[.slice a0 n0 c0, .slice b0 n0 d0] W fun e w' => e = .returned (.bool true) ∧ Below W.heap.size W w') :
    Calls Tryd.prog 20 #[.agg #[.int .i64 x0, .int .i64 x1, .slice a0 n0 c0], .agg #[.int .i64 x0, .int .i64 x1, .slice b0 n0 d0]] w fun e w' => e = .returned (.bool true) ∧ Below w.heap.size w w' := by
  have HF0 := hide hf0
  clear hf0
  have HW := hide (TwoB.start w (.cells #[.int .i64 x0, .int .i64 x1, .slice a0 n0 c0] 36) (.cells #[.int .i64 x0, .int .i64 x1, .slice b0 n0 d0] 36))
  have fc0 : ((w.alloc (.cells #[.int .i64 x0, .int .i64 x1, .slice a0 n0 c0] 36)).alloc (.cells #[.int .i64 x0, .int .i64 x1, .slice b0 n0 d0] 36)).cell? ⟨w.heap.size, 0, none⟩ = some (.int .i64 x0) := cell_of_row _ _ 0 _ _ _ HW.out.2.1
  have fc1 : ((w.alloc (.cells #[.int .i64 x0, .int .i64 x1, .slice a0 n0 c0] 36)).alloc (.cells #[.int .i64 x0, .int .i64 x1, .slice b0 n0 d0] 36)).cell? ⟨w.heap.size, 1, none⟩ = some (.int .i64 x1) := cell_of_row _ _ 1 _ _ _ HW.out.2.1
  have fc2 : ((w.alloc (.cells #[.int .i64 x0, .int .i64 x1, .slice a0 n0 c0] 36)).alloc (.cells #[.int .i64 x0, .int .i64 x1, .slice b0 n0 d0] 36)).cell? ⟨w.heap.size, 2, none⟩ = some (.slice a0 n0 c0) := cell_of_row _ _ 2 _ _ _ HW.out.2.1
  have fe0 : ((w.alloc (.cells #[.int .i64 x0, .int .i64 x1, .slice a0 n0 c0] 36)).alloc (.cells #[.int .i64 x0, .int .i64 x1, .slice b0 n0 d0] 36)).cell? ⟨w.heap.size + 1, 0, none⟩ = some (.int .i64 x0) := cell_of_row _ _ 0 _ _ _ HW.out.2.2
  have fe1 : ((w.alloc (.cells #[.int .i64 x0, .int .i64 x1, .slice a0 n0 c0] 36)).alloc (.cells #[.int .i64 x0, .int .i64 x1, .slice b0 n0 d0] 36)).cell? ⟨w.heap.size + 1, 1, none⟩ = some (.int .i64 x1) := cell_of_row _ _ 1 _ _ _ HW.out.2.2
  have fe2 : ((w.alloc (.cells #[.int .i64 x0, .int .i64 x1, .slice a0 n0 c0] 36)).alloc (.cells #[.int .i64 x0, .int .i64 x1, .slice b0 n0 d0] 36)).cell? ⟨w.heap.size + 1, 2, none⟩ = some (.slice b0 n0 d0) := cell_of_row _ _ 2 _ _ _ HW.out.2.2
  go_enter Tryd.func20, Tryd.ntmps20
  go_wp2_with fail
  generalize (w.alloc (.cells #[.int .i64 x0, .int .i64 x1, .slice a0 n0 c0] 36)).alloc (.cells #[.int .i64 x0, .int .i64 x1, .slice b0 n0 d0] 36) = W at *
  clear fc0 fe0 fc1 fe1 fc2 fe2
  refine (HF0.out _ HW.out.1.1).mono ?_
  rintro e w1 ⟨rfl, hb⟩
  replace HW := hide (HW.out.next hb)
  clear hb
  have fc0 : (w1).cell? ⟨w.heap.size, 0, none⟩ = some (.int .i64 x0) := cell_of_row _ _ 0 _ _ _ HW.out.2.1
  have fc1 : (w1).cell? ⟨w.heap.size, 1, none⟩ = some (.int .i64 x1) := cell_of_row _ _ 1 _ _ _ HW.out.2.1
  have fc2 : (w1).cell? ⟨w.heap.size, 2, none⟩ = some (.slice a0 n0 c0) := cell_of_row _ _ 2 _ _ _ HW.out.2.1
  have fe0 : (w1).cell? ⟨w.heap.size + 1, 0, none⟩ = some (.int .i64 x0) := cell_of_row _ _ 0 _ _ _ HW.out.2.2
  have fe1 : (w1).cell? ⟨w.heap.size + 1, 1, none⟩ = some (.int .i64 x1) := cell_of_row _ _ 1 _ _ _ HW.out.2.2
  have fe2 : (w1).cell? ⟨w.heap.size + 1, 2, none⟩ = some (.slice b0 n0 d0) := cell_of_row _ _ 2 _ _ _ HW.out.2.2
  go_wp2_with fail
  go_ret
  exact ⟨rfl, HW.out.1.1⟩
set_option maxHeartbeats 4000000 in
theorem markDatagram_d (w : World) (x0 : Int) (x1 : Int) (a0 : Option Addr) (n0 c0 : Nat) (d0 m0 : D) (K0 K1 : Int) (B : Nat) (bs : List Nat) (hf0 : ∀ (W : World) (f : List Nat), Holds W B d0 (.slice a0 n0 c0) f → f.Nodup → Calls Tryd.prog 15 #[.slice a0 n0 c0, .int .i64 K0] W fun e w' => e = .returned (.int .i64 K1) ∧ Holds w' B m0 (.slice a0 n0 c0) f ∧ Only f W w') (h : HoldsL w B [d0] [.slice a0 n0 c0] bs) (hnd : bs.Nodup) :
    Calls Tryd.prog 21 #[.agg #[.int .i64 x0, .int .i64 x1, .slice a0 n0 c0], .int .i64 K0] w fun e w' => e = .returned (.int .i64 K1) ∧ HoldsL w' B [m0] [.slice a0 n0 c0] bs ∧ Only bs w w' := by
  obtain ⟨_, _, f0, g0, e0, rfl, h0, r0⟩ := holdsL_cons.1 h
  cases e0
  obtain ⟨_, rfl⟩ := holdsL_nil.1 r0
  have HF0 := hide hf0
  clear hf0
  have hal := (Below.refl w.heap.size w).alloc (Nat.le_refl _) (.cells #[.int .i64 x0, .int .i64 x1, .slice a0 n0 c0] 36)
  have HR := hide (Only.of_below (S := f0 ++ []) hal)
  have HX := hide (Keep.new w (.cells #[.int .i64 x0, .int .i64 x1, .slice a0 n0 c0] 36))
  have HD0 := hide (Keep.data (holdsL_one h0))
  have HL0 := hide (fun b hb => (Holds.lt _ _ _ h0 b hb).2)
  replace HD0 := hide (HD0.out.next hal)
  have HN := hide hnd
  clear hal h hnd h0 r0
  have fc0 : (w.alloc (.cells #[.int .i64 x0, .int .i64 x1, .slice a0 n0 c0] 36)).cell? ⟨w.heap.size, 0, none⟩ = some (.int .i64 x0) := cell_of_row _ _ 0 _ _ _ HX.out.here
  have fc1 : (w.alloc (.cells #[.int .i64 x0, .int .i64 x1, .slice a0 n0 c0] 36)).cell? ⟨w.heap.size, 1, none⟩ = some (.int .i64 x1) := cell_of_row _ _ 1 _ _ _ HX.out.here
  have fc2 : (w.alloc (.cells #[.int .i64 x0, .int .i64 x1, .slice a0 n0 c0] 36)).cell? ⟨w.heap.size, 2, none⟩ = some (.slice a0 n0 c0) := cell_of_row _ _ 2 _ _ _ HX.out.here
  go_enter Tryd.func21, Tryd.ntmps21
  go_wp2_with fail
  generalize w.alloc (.cells #[.int .i64 x0, .int .i64 x1, .slice a0 n0 c0] 36) = W at *
  clear fc0 fc1 fc2
  obtain ⟨_, _, _, _, ee, eb, hh, hr⟩ := holdsL_cons.1 HD0.out.here
  cases ee
  obtain ⟨_, rfl⟩ := holdsL_nil.1 hr
  rw [List.append_nil, List.append_nil] at eb
  subst eb
  refine (HF0.out _ _ hh (nodup_left HN.out)).mono ?_
  rintro e w1 ⟨rfl, hm, hon⟩
  clear hh hr
  replace HX := hide (HX.out.only hon (fun b hb hc => by have h1 := List.mem_singleton.1 hb; have h2 := HL0.out b hc; omega))
  replace HD0 := hide (Keep.data (holdsL_one hm))
  replace HR := hide (HR.out.trans (hon.mono (fun b hb => by simp [hb])))
  clear hm hon
  have fc0 : (w1).cell? ⟨w.heap.size, 0, none⟩ = some (.int .i64 x0) := cell_of_row _ _ 0 _ _ _ HX.out.here
  have fc1 : (w1).cell? ⟨w.heap.size, 1, none⟩ = some (.int .i64 x1) := cell_of_row _ _ 1 _ _ _ HX.out.here
  have fc2 : (w1).cell? ⟨w.heap.size, 2, none⟩ = some (.slice a0 n0 c0) := cell_of_row _ _ 2 _ _ _ HX.out.here
  go_wp2_with fail
  go_ret
  obtain ⟨_, _, _, _, ee, eb, hh0, hr⟩ := holdsL_cons.1 HD0.out.here
  cases ee
  obtain ⟨_, rfl⟩ := holdsL_nil.1 hr
  rw [List.append_nil, List.append_nil] at eb
  subst eb
  exact ⟨rfl, holdsL_cons.2 ⟨_, _, _, _, rfl, rfl, hh0, holdsL_nil.2 ⟨rfl, rfl⟩⟩, HR.out⟩
set_option maxHeartbeats 4000000 in
theorem heldDatagram_d (w : World) (x0 : Int) (x1 : Int) (a0 : Option Addr) (n0 c0 : Nat) (m0 : D) (K0 K1 : Int) (B : Nat) (bs : List Nat) (hk1 : 0 ≤ K1) (hf0 : ∀ (W : World) (f : List Nat), Holds W B m0 (.slice a0 n0 c0) f → Calls Tryd.prog 16 #[.slice a0 n0 c0, .int .i64 K0] W fun e w' => e = .returned (.int .i64 K1) ∧ Below W.heap.size W w') (h : HoldsL w B [m0] [.slice a0 n0 c0] bs) :
    Calls Tryd.prog 22 #[.agg #[.int .i64 x0, .int .i64 x1, .slice a0 n0 c0], .int .i64 K0] w fun e w' => e = .returned (.int .i64 K1) ∧ Below w.heap.size w w' := by
  obtain ⟨_, _, f0, g0, e0, rfl, h0, r0⟩ := holdsL_cons.1 h
  cases e0
  have HF0 := hide hf0
  clear hf0
  have hal := (Below.refl w.heap.size w).alloc (Nat.le_refl _) (.cells #[.int .i64 x0, .int .i64 x1, .slice a0 n0 c0] 36)
  have HW := hide hal
  have HX := hide (Keep.new w (.cells #[.int .i64 x0, .int .i64 x1, .slice a0 n0 c0] 36))
  have HD0 := hide (Holds.next h0 hal)
  clear hal h h0 r0
  have fc0 : (w.alloc (.cells #[.int .i64 x0, .int .i64 x1, .slice a0 n0 c0] 36)).cell? ⟨w.heap.size, 0, none⟩ = some (.int .i64 x0) := cell_of_row _ _ 0 _ _ _ HX.out.here
  have fc1 : (w.alloc (.cells #[.int .i64 x0, .int .i64 x1, .slice a0 n0 c0] 36)).cell? ⟨w.heap.size, 1, none⟩ = some (.int .i64 x1) := cell_of_row _ _ 1 _ _ _ HX.out.here
  have fc2 : (w.alloc (.cells #[.int .i64 x0, .int .i64 x1, .slice a0 n0 c0] 36)).cell? ⟨w.heap.size, 2, none⟩ = some (.slice a0 n0 c0) := cell_of_row _ _ 2 _ _ _ HX.out.here
  go_enter Tryd.func22, Tryd.ntmps22
  go_wp2_with fail
  generalize w.alloc (.cells #[.int .i64 x0, .int .i64 x1, .slice a0 n0 c0] 36) = W at *
  clear fc0 fc1 fc2
  refine (HF0.out _ _ HD0.out).mono ?_
  rintro e w1 ⟨rfl, hb⟩
  replace HX := hide (HX.out.next hb)
  replace HW := hide (below_on HW.out hb)
  replace HD0 := hide (Holds.next HD0.out hb)
  clear hb
  have fc0 : (w1).cell? ⟨w.heap.size, 0, none⟩ = some (.int .i64 x0) := cell_of_row _ _ 0 _ _ _ HX.out.here
  have fc1 : (w1).cell? ⟨w.heap.size, 1, none⟩ = some (.int .i64 x1) := cell_of_row _ _ 1 _ _ _ HX.out.here
  have fc2 : (w1).cell? ⟨w.heap.size, 2, none⟩ = some (.slice a0 n0 c0) := cell_of_row _ _ 2 _ _ _ HX.out.here
  go_wp2_with fail
  go_ret
  exact ⟨rfl, HW.out⟩
set_option maxHeartbeats 4000000 in
theorem szDatagram_d (w : World) (x0 : Int) (x1 : Int) (a0 : Option Addr) (n0 c0 : Nat) (L0 L1 : Int) (hl1 : 0 ≤ L1) (hf0 : ∀ (W : World), Calls Tryd.prog 36 #[.slice a0 n0 c0, .int .i64 L0] W fun e w' => e = .returned (.int .i64 L1) ∧ Below W.heap.size W w') :
    Calls Tryd.prog 29 #[.agg #[.int .i64 x0, .int .i64 x1, .slice a0 n0 c0], .int .i64 L0] w fun e w' => e = .returned (.int .i64 L1) ∧ Below w.heap.size w w' := by
  have HF0 := hide hf0
  clear hf0
  have HW := hide ((Below.refl w.heap.size w).alloc (Nat.le_refl _) (.cells #[.int .i64 x0, .int .i64 x1, .slice a0 n0 c0] 52))
  have HX := hide (Keep.new w (.cells #[.int .i64 x0, .int .i64 x1, .slice a0 n0 c0] 52))
  have fc0 : (w.alloc (.cells #[.int .i64 x0, .int .i64 x1, .slice a0 n0 c0] 52)).cell? ⟨w.heap.size, 0, none⟩ = some (.int .i64 x0) := cell_of_row _ _ 0 _ _ _ HX.out.here
  have fc1 : (w.alloc (.cells #[.int .i64 x0, .int .i64 x1, .slice a0 n0 c0] 52)).cell? ⟨w.heap.size, 1, none⟩ = some (.int .i64 x1) := cell_of_row _ _ 1 _ _ _ HX.out.here
  have fc2 : (w.alloc (.cells #[.int .i64 x0, .int .i64 x1, .slice a0 n0 c0] 52)).cell? ⟨w.heap.size, 2, none⟩ = some (.slice a0 n0 c0) := cell_of_row _ _ 2 _ _ _ HX.out.here
  go_enter Tryd.func29, Tryd.ntmps29
  go_wp2_with fail
  generalize w.alloc (.cells #[.int .i64 x0, .int .i64 x1, .slice a0 n0 c0] 52) = W at *
  clear fc0 fc1 fc2
  refine (HF0.out _).mono ?_
  rintro e w1 ⟨rfl, hb⟩
  replace HX := hide (HX.out.next hb)
  replace HW := hide (below_on HW.out hb)
  clear hb
  have fc0 : (w1).cell? ⟨w.heap.size, 0, none⟩ = some (.int .i64 x0) := cell_of_row _ _ 0 _ _ _ HX.out.here
  have fc1 : (w1).cell? ⟨w.heap.size, 1, none⟩ = some (.int .i64 x1) := cell_of_row _ _ 1 _ _ _ HX.out.here
  have fc2 : (w1).cell? ⟨w.heap.size, 2, none⟩ = some (.slice a0 n0 c0) := cell_of_row _ _ 2 _ _ _ HX.out.here
  go_wp2_with fail
  go_ret
  exact ⟨rfl, HW.out⟩
set_option maxHeartbeats 4000000 in
theorem toDatagram_d (w : World) (x0 : Int) (x1 : Int) (a0 : Option Addr) (n0 c0 : Nat) (d0 : D) (hf0 : ∀ (W : World), Below w.heap.size w W → Calls Tryd.prog 18 #[.slice a0 n0 c0] W fun e w' => ∃ (a' : Option Addr) (k' : Nat) (f : List Nat), e = .returned (.slice a' n0 k') ∧ Holds w' W.heap.size d0 (.slice a' n0 k') f ∧ f.Nodup ∧ Below W.heap.size W w') :
    Calls Tryd.prog 31 #[.agg #[.int .i64 x0, .int .i64 x1, .slice a0 n0 c0]] w fun e w' => ∃ (b0 : Option Addr) (k0 : Nat) (bs : List Nat), e = .returned (.agg #[.int .i64 x0, .int .i64 x1, .slice b0 n0 k0]) ∧ HoldsL w' w.heap.size [d0] [.slice b0 n0 k0] bs ∧ bs.Nodup ∧ Below w.heap.size w w' := by
  have HF0 := hide hf0
  clear hf0
  have HT := hide (Three.start w (.cells #[.int .i64 x0, .int .i64 x1, .slice a0 n0 c0] 52) (.cells #[.int .i64 0, .int .i64 0, .slice none 0 0] 36) (.cells #[.int .i64 x0, .int .i64 x1, .slice none 0 0] 36))
  go_enter Tryd.func31, Tryd.ntmps31
  go_wp2_with fail
  generalize ((w.alloc (.cells #[.int .i64 x0, .int .i64 x1, .slice a0 n0 c0] 52)).alloc (.cells #[.int .i64 0, .int .i64 0, .slice none 0 0] 36)).alloc (.cells #[.int .i64 x0, .int .i64 x1, .slice none 0 0] 36) = W at *
  have hZ := HT.out.2.1
  have HP := hide (Keep.obj HT.out.2.2.1)
  have HR := hide (Keep.obj HT.out.2.2.2.1)
  have HO := hide (Keep.obj HT.out.2.2.2.2)
  have HW := hide HT.out.1
  clear HT
  refine (HF0.out _ HW.out).mono ?_
  rintro e w1 ⟨b0, k0, f0, rfl, hd, hn, hb⟩
  replace HP := hide (HP.out.next hb)
  replace HR := hide (HR.out.next hb)
  replace HO := hide (HO.out.next hb)
  replace HW := hide (below_on HW.out hb)
  have z0 := hb.size
  have HLo0 := hide (fun b hb => (Holds.lt _ _ _ hd b hb).1)
  have HHi0 := hide (fun b hb => (Holds.lt _ _ _ hd b hb).2)
  have HN0 := hide hn
  have HD0 := hide (Keep.data (holdsL_one (Holds.down (show w.heap.size ≤ W.heap.size by omega) _ _ _ hd)))
  clear hb hd hn
  have fe0 : (w1).cell? ⟨w.heap.size + 1 + 1, 0, none⟩ = some (.int .i64 x0) := cell_of_row _ _ 0 _ _ _ HO.out.here
  have fe1 : (w1).cell? ⟨w.heap.size + 1 + 1, 1, none⟩ = some (.int .i64 x1) := cell_of_row _ _ 1 _ _ _ HO.out.here
  have fe2 : (w1).cell? ⟨w.heap.size + 1 + 1, 2, none⟩ = some (.slice none 0 0) := cell_of_row _ _ 2 _ _ _ HO.out.here
  have ef : ∀ q, w1.frozen? ⟨w.heap.size + 1 + 1, q, none⟩ = false := fun q => frozen_of_row _ _ q _ _ HO.out.here
  have fr0 : (w1).cell? ⟨w.heap.size + 1, 0, none⟩ = some (.int .i64 0) := cell_of_row _ _ 0 _ _ _ HR.out.here
  have fr1 : (w1).cell? ⟨w.heap.size + 1, 1, none⟩ = some (.int .i64 0) := cell_of_row _ _ 1 _ _ _ HR.out.here
  have fr2 : (w1).cell? ⟨w.heap.size + 1, 2, none⟩ = some (.slice none 0 0) := cell_of_row _ _ 2 _ _ _ HR.out.here
  have rf : ∀ q, w1.frozen? ⟨w.heap.size + 1, q, none⟩ = false := fun q => frozen_of_row _ _ q _ _ HR.out.here
  go_wp2_with fail
  replace HD0 := hide (HD0.out.set (w.heap.size + 1 + 1) 2 (.slice b0 n0 k0) (by intro hc; have := HLo0.out _ (by simpa using hc); omega))
  replace HW := hide (below_set HW.out (w.heap.size + 1 + 1) 2 (.slice b0 n0 k0) (by omega))
  replace HD0 := hide (HD0.out.set (w.heap.size + 1) 0 (.int .i64 x0) (by intro hc; have := HLo0.out _ (by simpa using hc); omega))
  replace HW := hide (below_set HW.out (w.heap.size + 1) 0 (.int .i64 x0) (by omega))
  replace HD0 := hide (HD0.out.set (w.heap.size + 1) 1 (.int .i64 x1) (by intro hc; have := HLo0.out _ (by simpa using hc); omega))
  replace HW := hide (below_set HW.out (w.heap.size + 1) 1 (.int .i64 x1) (by omega))
  replace HD0 := hide (HD0.out.set (w.heap.size + 1) 2 (.slice b0 n0 k0) (by intro hc; have := HLo0.out _ (by simpa using hc); omega))
  replace HW := hide (below_set HW.out (w.heap.size + 1) 2 (.slice b0 n0 k0) (by omega))
  obtain ⟨_, _, _, _, ee, eb, hh0, hr⟩ := holdsL_cons.1 HD0.out.here
  cases ee
  obtain ⟨_, rfl⟩ := holdsL_nil.1 hr
  rw [List.append_nil, List.append_nil] at eb
  subst eb
  exact bodyPost_ret (v := .agg #[.int .i64 x0, .int .i64 x1, .slice b0 n0 k0]) (by simp [results, Tryd.results31, go_sem, fr0, fr1, fr2]) rfl ⟨b0, k0, _, rfl, holdsL_cons.2 ⟨_, _, _, _, rfl, rfl, hh0, holdsL_nil.2 ⟨rfl, rfl⟩⟩, (by rw [List.append_nil]; exact HN0.out), HW.out⟩

set_option maxHeartbeats 8000000 in
set_option maxRecDepth 100000 in
theorem walkDecodeUdp0 (w : World) (o0_a0 : Option Addr) (n0_0 o0_k0 : Nat) (ds0 : List D) (m1 : Int) (m2 : Int) (y0_0 : Int) (y0_1 : Int) (N0_0 : Nat) (rs0 ms0 : List D) (C1 : Int) (hlen : (n0_0 : Int) ≤ 1048576) (hT0 : ∀ (W : World), Below w.heap.size w W → Calls Tryd.prog 18 #[.slice o0_a0 n0_0 o0_k0] W fun e w' => ∃ (c0_a0 : Option Addr) (c0_k0 : Nat) (bs : List Nat), e = .returned (.slice c0_a0 n0_0 c0_k0) ∧ HoldsL w' W.heap.size ds0 [.slice c0_a0 n0_0 c0_k0] bs ∧ bs.Nodup ∧ Below W.heap.size W w') (hS : ∀ (W : World) (c0_a0 : Option Addr) (c0_k0 : Nat) (B0 : Nat) (bs0 : List Nat), Below w.heap.size w W → HoldsL W B0 ds0 [.slice c0_a0 n0_0 c0_k0] bs0 → Calls Tryd.prog 17 #[.slice c0_a0 n0_0 c0_k0, .int .i64 m1, .int .i64 m2] W fun e w' => ∃ (d0_a0 : Option Addr) (d0_k0 : Nat) (fs0 : List Nat), e = .returned (.tuple #[.agg #[.int .i64 y0_0, .int .i64 y0_1, .slice d0_a0 N0_0 d0_k0], .int .i64 C1]) ∧ HoldsL w' W.heap.size rs0 [.slice d0_a0 N0_0 d0_k0] fs0 ∧ (fs0).Nodup ∧ Below W.heap.size W w') (hI : ∀ (W : World) (c0_a0 : Option Addr) (c0_k0 : Nat) (B0 : Nat) (bs0 : List Nat), Below w.heap.size w W → HoldsL W B0 ds0 [.slice c0_a0 n0_0 c0_k0] bs0 → Calls Tryd.prog 19 #[.slice c0_a0 n0_0 c0_k0, .int .i64 m1, .int .i64 m2] W fun e w' => ∃ (d0_a0 : Option Addr) (d0_k0 : Nat) (fs0 : List Nat), e = .returned (.tuple #[.agg #[.int .i64 y0_0, .int .i64 y0_1, .slice d0_a0 N0_0 d0_k0], .int .i64 C1]) ∧ HoldsL w' W.heap.size rs0 [.slice d0_a0 N0_0 d0_k0] fs0 ∧ (fs0).Nodup ∧ Below W.heap.size W w') (hE0 : ∀ (W : World) (c0_a0 : Option Addr) (c0_k0 : Nat) (e0_a0 : Option Addr) (e0_k0 : Nat) (B1 B2 : Nat) (b1 b2 : List Nat), HoldsL W B1 ds0 [.slice c0_a0 n0_0 c0_k0] b1 → HoldsL W B2 ds0 [.slice e0_a0 n0_0 e0_k0] b2 → Calls Tryd.prog 12 #[.slice c0_a0 n0_0 c0_k0, .slice e0_a0 n0_0 e0_k0] W fun e w' => e = .returned (.bool true) ∧ Below W.heap.size W w') (hQ0 : ∀ (W : World) (c0_a0 : Option Addr) (c0_k0 : Nat) (e0_a0 : Option Addr) (e0_k0 : Nat) (B1 B2 : Nat) (b1 b2 : List Nat), HoldsL W B1 rs0 [.slice c0_a0 N0_0 c0_k0] b1 → HoldsL W B2 rs0 [.slice e0_a0 N0_0 e0_k0] b2 → Calls Tryd.prog 20 #[.agg #[.int .i64 y0_0, .int .i64 y0_1, .slice c0_a0 N0_0 c0_k0], .agg #[.int .i64 y0_0, .int .i64 y0_1, .slice e0_a0 N0_0 e0_k0]] W fun e w' => e = .returned (.bool true) ∧ Below W.heap.size W w') (k0 : Int) (hk0 : 0 ≤ k0) (hM0 : ∀ (W : World) (c0_a0 : Option Addr) (c0_k0 : Nat) (B : Nat) (bs : List Nat), HoldsL W B ds0 [.slice c0_a0 n0_0 c0_k0] bs → bs.Nodup → Calls Tryd.prog 15 #[.slice c0_a0 n0_0 c0_k0, .int .i64 1] W fun e w' => e = .returned (.int .i64 k0) ∧ Only bs W w') (q0 : Int) (hq0 : 0 ≤ q0) (hN0 : ∀ (W : World) (c0_a0 : Option Addr) (c0_k0 : Nat) (B : Nat) (bs : List Nat), HoldsL W B rs0 [.slice c0_a0 N0_0 c0_k0] bs → bs.Nodup → Calls Tryd.prog 21 #[.agg #[.int .i64 y0_0, .int .i64 y0_1, .slice c0_a0 N0_0 c0_k0], .int .i64 1] W fun e w' => e = .returned (.int .i64 q0) ∧ HoldsL w' B ms0 [.slice c0_a0 N0_0 c0_k0] bs ∧ Only bs W w') (hH0 : ∀ (W : World) (c0_a0 : Option Addr) (c0_k0 : Nat) (B : Nat) (bs : List Nat), HoldsL W B ms0 [.slice c0_a0 N0_0 c0_k0] bs → Calls Tryd.prog 22 #[.agg #[.int .i64 y0_0, .int .i64 y0_1, .slice c0_a0 N0_0 c0_k0], .int .i64 1] W fun e w' => e = .returned (.int .i64 q0) ∧ Below W.heap.size W w') :
    Calls Tryd.prog 4 #[.slice o0_a0 n0_0 o0_k0, .int .i64 m1, .int .i64 m2] w fun e w' => e = .returned (.bool true) ∧ Below w.heap.size w w' := by
  have HhT0 := hide hT0
  have HhS := hide hS
  have HhI := hide hI
  have HhE0 := hide hE0
  have HhQ0 := hide hQ0
  have HhM0 := hide hM0
  have HhN0 := hide hN0
  have HhH0 := hide hH0
  clear hT0 hS hI hE0 hQ0 hM0 hN0 hH0
  have HW := hide (Below.refl w.heap.size w)
  go_enter Tryd.func4, Tryd.ntmps4
  go_wp2_with fail
  have z0 : w.heap.size ≤ w.heap.size := Nat.le_refl _
  refine (HhT0.out _ HW.out).mono ?_
  rintro e u1 ⟨r0_a0, r0_k0, rb0, rfl, ro0, rn0, hb⟩
  have Hrn0 := hide rn0
  clear rn0
  replace HW := hide (below_on HW.out hb)
  have z1 := hb.size
  clear hb
  have lo_rd0 : ∀ b ∈ rb0, w.heap.size ≤ b := fun b hb => (HoldsL.lt _ _ _ ro0 b hb).1
  have hi_rd0 : ∀ b ∈ rb0, b < u1.heap.size := fun b hb => (HoldsL.lt _ _ _ ro0 b hb).2
  have Hrd0 := hide (Keep.data ro0)
  clear ro0
  have Hlo_rd0 := hide lo_rd0
  have Hhi_rd0 := hide hi_rd0
  clear lo_rd0 hi_rd0
  go_wp2_with fail
  refine (HhS.out _ r0_a0 r0_k0 _ _ HW.out Hrd0.out.here).mono ?_
  rintro e u2 ⟨p0_a0, p0_k0, pf0, rfl, po0, pn, hb⟩
  have Hpn := hide pn
  clear pn
  replace Hrd0 := hide (Hrd0.out.next hb)
  replace HW := hide (below_on HW.out hb)
  have z2 := hb.size
  clear hb
  have lo_pd0 : ∀ b ∈ pf0, u1.heap.size ≤ b := fun b hb => (HoldsL.lt _ _ _ po0 b hb).1
  have hi_pd0 : ∀ b ∈ pf0, b < u2.heap.size := fun b hb => (HoldsL.lt _ _ _ po0 b hb).2
  have Hpd0 := hide (Keep.data po0)
  clear po0
  have Hlo_pd0 := hide lo_pd0
  have Hhi_pd0 := hide hi_pd0
  clear lo_pd0 hi_pd0
  clear Hrd0
  clear Hlo_rd0 Hhi_rd0
  have hal := (Below.refl (u2).heap.size (u2)).alloc (Nat.le_refl _) (.cells #[.int .i64 y0_0, .int .i64 y0_1, .slice p0_a0 N0_0 p0_k0] 36)
  have hsz2 := World.size_alloc (u2) (.cells #[.int .i64 y0_0, .int .i64 y0_1, .slice p0_a0 N0_0 p0_k0] 36)
  have Hpx0 := hide (Keep.new (u2) (.cells #[.int .i64 y0_0, .int .i64 y0_1, .slice p0_a0 N0_0 p0_k0] 36))
  replace Hpd0 := hide (Hpd0.out.next hal)
  replace HW := hide (below_on HW.out hal)
  clear hal
  go_wp2_with fail
  generalize (u2).alloc (.cells #[.int .i64 y0_0, .int .i64 y0_1, .slice p0_a0 N0_0 p0_k0] 36) = V3 at *
  have zz2 := HW.out.size
  refine (HhT0.out _ HW.out).mono ?_
  rintro e u4 ⟨s0_a0, s0_k0, sb0, rfl, so0, sn0, hb⟩
  have Hsn0 := hide sn0
  clear sn0
  replace Hpd0 := hide (Hpd0.out.next hb)
  replace Hpx0 := hide (Hpx0.out.next hb)
  replace HW := hide (below_on HW.out hb)
  have z3 := hb.size
  clear hb
  have lo_sd0 : ∀ b ∈ sb0, V3.heap.size ≤ b := fun b hb => (HoldsL.lt _ _ _ so0 b hb).1
  have hi_sd0 : ∀ b ∈ sb0, b < u4.heap.size := fun b hb => (HoldsL.lt _ _ _ so0 b hb).2
  have Hsd0 := hide (Keep.data so0)
  clear so0
  have Hlo_sd0 := hide lo_sd0
  have Hhi_sd0 := hide hi_sd0
  clear lo_sd0 hi_sd0
  go_wp2_with fail
  refine (HhI.out _ s0_a0 s0_k0 _ _ HW.out Hsd0.out.here).mono ?_
  rintro e u5 ⟨q0_a0, q0_k0, qf0, rfl, qo0, qn, hb⟩
  have Hqn := hide qn
  clear qn
  replace Hpd0 := hide (Hpd0.out.next hb)
  replace Hpx0 := hide (Hpx0.out.next hb)
  replace Hsd0 := hide (Hsd0.out.next hb)
  replace HW := hide (below_on HW.out hb)
  have z4 := hb.size
  clear hb
  have lo_qd0 : ∀ b ∈ qf0, u4.heap.size ≤ b := fun b hb => (HoldsL.lt _ _ _ qo0 b hb).1
  have hi_qd0 : ∀ b ∈ qf0, b < u5.heap.size := fun b hb => (HoldsL.lt _ _ _ qo0 b hb).2
  have Hqd0 := hide (Keep.data qo0)
  clear qo0
  have Hlo_qd0 := hide lo_qd0
  have Hhi_qd0 := hide hi_qd0
  clear lo_qd0 hi_qd0
  have hal := (Below.refl (u5).heap.size (u5)).alloc (Nat.le_refl _) (.cells #[.int .i64 y0_0, .int .i64 y0_1, .slice q0_a0 N0_0 q0_k0] 36)
  have hsz4 := World.size_alloc (u5) (.cells #[.int .i64 y0_0, .int .i64 y0_1, .slice q0_a0 N0_0 q0_k0] 36)
  have Hqx0 := hide (Keep.new (u5) (.cells #[.int .i64 y0_0, .int .i64 y0_1, .slice q0_a0 N0_0 q0_k0] 36))
  replace Hpd0 := hide (Hpd0.out.next hal)
  replace Hpx0 := hide (Hpx0.out.next hal)
  replace Hsd0 := hide (Hsd0.out.next hal)
  replace Hqd0 := hide (Hqd0.out.next hal)
  replace HW := hide (below_on HW.out hal)
  clear hal
  have c_px0_0 : ((u5).alloc (.cells #[.int .i64 y0_0, .int .i64 y0_1, .slice q0_a0 N0_0 q0_k0] 36)).cell? ⟨u2.heap.size, 0, none⟩ = some (.int .i64 y0_0) := cell_of_row _ _ 0 _ _ _ Hpx0.out.here
  have c_px0_1 : ((u5).alloc (.cells #[.int .i64 y0_0, .int .i64 y0_1, .slice q0_a0 N0_0 q0_k0] 36)).cell? ⟨u2.heap.size, 1, none⟩ = some (.int .i64 y0_1) := cell_of_row _ _ 1 _ _ _ Hpx0.out.here
  have c_px0_2 : ((u5).alloc (.cells #[.int .i64 y0_0, .int .i64 y0_1, .slice q0_a0 N0_0 q0_k0] 36)).cell? ⟨u2.heap.size, 2, none⟩ = some (.slice p0_a0 N0_0 p0_k0) := cell_of_row _ _ 2 _ _ _ Hpx0.out.here
  have c_qx0_0 : ((u5).alloc (.cells #[.int .i64 y0_0, .int .i64 y0_1, .slice q0_a0 N0_0 q0_k0] 36)).cell? ⟨u5.heap.size, 0, none⟩ = some (.int .i64 y0_0) := cell_of_row _ _ 0 _ _ _ Hqx0.out.here
  have c_qx0_1 : ((u5).alloc (.cells #[.int .i64 y0_0, .int .i64 y0_1, .slice q0_a0 N0_0 q0_k0] 36)).cell? ⟨u5.heap.size, 1, none⟩ = some (.int .i64 y0_1) := cell_of_row _ _ 1 _ _ _ Hqx0.out.here
  have c_qx0_2 : ((u5).alloc (.cells #[.int .i64 y0_0, .int .i64 y0_1, .slice q0_a0 N0_0 q0_k0] 36)).cell? ⟨u5.heap.size, 2, none⟩ = some (.slice q0_a0 N0_0 q0_k0) := cell_of_row _ _ 2 _ _ _ Hqx0.out.here
  go_wp2_with fail
  generalize (u5).alloc (.cells #[.int .i64 y0_0, .int .i64 y0_1, .slice q0_a0 N0_0 q0_k0] 36) = V6 at *
  clear c_px0_0 c_px0_1 c_px0_2 c_qx0_0 c_qx0_1 c_qx0_2
  refine (HhQ0.out _ q0_a0 q0_k0 p0_a0 p0_k0 _ _ _ _ Hqd0.out.here Hpd0.out.here).mono ?_
  rintro e u7 ⟨rfl, hb⟩
  replace Hpd0 := hide (Hpd0.out.next hb)
  replace Hpx0 := hide (Hpx0.out.next hb)
  replace Hsd0 := hide (Hsd0.out.next hb)
  replace Hqd0 := hide (Hqd0.out.next hb)
  replace Hqx0 := hide (Hqx0.out.next hb)
  replace HW := hide (below_on HW.out hb)
  have z5 := hb.size
  clear hb
  go_wp2_with fail
  refine (HhT0.out _ HW.out).mono ?_
  rintro e u8 ⟨t0_a0, t0_k0, tb0, rfl, to0, tn0, hb⟩
  have Htn0 := hide tn0
  clear tn0
  replace Hpd0 := hide (Hpd0.out.next hb)
  replace Hpx0 := hide (Hpx0.out.next hb)
  replace Hsd0 := hide (Hsd0.out.next hb)
  replace Hqd0 := hide (Hqd0.out.next hb)
  replace Hqx0 := hide (Hqx0.out.next hb)
  replace HW := hide (below_on HW.out hb)
  have z6 := hb.size
  clear hb
  have lo_td0 : ∀ b ∈ tb0, u7.heap.size ≤ b := fun b hb => (HoldsL.lt _ _ _ to0 b hb).1
  have hi_td0 : ∀ b ∈ tb0, b < u8.heap.size := fun b hb => (HoldsL.lt _ _ _ to0 b hb).2
  have Htd0 := hide (Keep.data to0)
  clear to0
  have Hlo_td0 := hide lo_td0
  have Hhi_td0 := hide hi_td0
  clear lo_td0 hi_td0
  go_wp2_with fail
  refine (HhE0.out _ s0_a0 s0_k0 t0_a0 t0_k0 _ _ _ _ Hsd0.out.here Htd0.out.here).mono ?_
  rintro e u9 ⟨rfl, hb⟩
  replace Hpd0 := hide (Hpd0.out.next hb)
  replace Hpx0 := hide (Hpx0.out.next hb)
  replace Hsd0 := hide (Hsd0.out.next hb)
  replace Hqd0 := hide (Hqd0.out.next hb)
  replace Hqx0 := hide (Hqx0.out.next hb)
  replace Htd0 := hide (Htd0.out.next hb)
  replace HW := hide (below_on HW.out hb)
  have z7 := hb.size
  clear hb
  clear Htd0
  clear Hlo_td0 Hhi_td0
  go_wp2_with fail
  refine (HhM0.out _ s0_a0 s0_k0 _ _ Hsd0.out.here Hsn0.out).mono ?_
  rintro e u10 ⟨rfl, hon⟩
  replace Hpd0 := hide (Hpd0.out.only hon (fun b hb hm => by have h1 := Hlo_pd0.out b hb; have h2 := Hhi_pd0.out b hb; have h3 := Hlo_sd0.out b hm; have h4 := Hhi_sd0.out b hm; omega))
  replace Hpx0 := hide (Hpx0.out.only hon (fun b hb hm => by have h1 := List.mem_singleton.1 hb; have h3 := Hlo_sd0.out b hm; have h4 := Hhi_sd0.out b hm; omega))
  replace Hqd0 := hide (Hqd0.out.only hon (fun b hb hm => by have h1 := Hlo_qd0.out b hb; have h2 := Hhi_qd0.out b hb; have h3 := Hlo_sd0.out b hm; have h4 := Hhi_sd0.out b hm; omega))
  replace Hqx0 := hide (Hqx0.out.only hon (fun b hb hm => by have h1 := List.mem_singleton.1 hb; have h3 := Hlo_sd0.out b hm; have h4 := Hhi_sd0.out b hm; omega))
  replace HW := hide (below_only HW.out hon (fun b hb => by have h1 := Hlo_sd0.out b hb; omega))
  have z8 := hon.size
  clear hon
  clear Hsd0
  clear Hlo_sd0 Hhi_sd0
  have c_px0_0 : (u10).cell? ⟨u2.heap.size, 0, none⟩ = some (.int .i64 y0_0) := cell_of_row _ _ 0 _ _ _ Hpx0.out.here
  have c_px0_1 : (u10).cell? ⟨u2.heap.size, 1, none⟩ = some (.int .i64 y0_1) := cell_of_row _ _ 1 _ _ _ Hpx0.out.here
  have c_px0_2 : (u10).cell? ⟨u2.heap.size, 2, none⟩ = some (.slice p0_a0 N0_0 p0_k0) := cell_of_row _ _ 2 _ _ _ Hpx0.out.here
  have c_qx0_0 : (u10).cell? ⟨u5.heap.size, 0, none⟩ = some (.int .i64 y0_0) := cell_of_row _ _ 0 _ _ _ Hqx0.out.here
  have c_qx0_1 : (u10).cell? ⟨u5.heap.size, 1, none⟩ = some (.int .i64 y0_1) := cell_of_row _ _ 1 _ _ _ Hqx0.out.here
  have c_qx0_2 : (u10).cell? ⟨u5.heap.size, 2, none⟩ = some (.slice q0_a0 N0_0 q0_k0) := cell_of_row _ _ 2 _ _ _ Hqx0.out.here
  go_wp2_with fail
  clear c_px0_0 c_px0_1 c_px0_2 c_qx0_0 c_qx0_1 c_qx0_2
  refine (HhQ0.out _ q0_a0 q0_k0 p0_a0 p0_k0 _ _ _ _ Hqd0.out.here Hpd0.out.here).mono ?_
  rintro e u11 ⟨rfl, hb⟩
  replace Hpd0 := hide (Hpd0.out.next hb)
  replace Hpx0 := hide (Hpx0.out.next hb)
  replace Hqd0 := hide (Hqd0.out.next hb)
  replace Hqx0 := hide (Hqx0.out.next hb)
  replace HW := hide (below_on HW.out hb)
  have z9 := hb.size
  clear hb
  have c_qx0_0 : (u11).cell? ⟨u5.heap.size, 0, none⟩ = some (.int .i64 y0_0) := cell_of_row _ _ 0 _ _ _ Hqx0.out.here
  have c_qx0_1 : (u11).cell? ⟨u5.heap.size, 1, none⟩ = some (.int .i64 y0_1) := cell_of_row _ _ 1 _ _ _ Hqx0.out.here
  have c_qx0_2 : (u11).cell? ⟨u5.heap.size, 2, none⟩ = some (.slice q0_a0 N0_0 q0_k0) := cell_of_row _ _ 2 _ _ _ Hqx0.out.here
  go_wp2_with fail
  refine (HhN0.out _ q0_a0 q0_k0 _ _ Hqd0.out.here Hqn.out).mono ?_
  rintro e u12 ⟨rfl, hmk, hon⟩
  clear c_qx0_0 c_qx0_1 c_qx0_2
  replace Hpd0 := hide (Hpd0.out.only hon (fun b hb hm => by have h1 := Hlo_pd0.out b hb; have h2 := Hhi_pd0.out b hb; have h3 := Hlo_qd0.out b hm; have h4 := Hhi_qd0.out b hm; omega))
  replace Hpx0 := hide (Hpx0.out.only hon (fun b hb hm => by have h1 := List.mem_singleton.1 hb; have h3 := Hlo_qd0.out b hm; have h4 := Hhi_qd0.out b hm; omega))
  replace Hqx0 := hide (Hqx0.out.only hon (fun b hb hm => by have h1 := List.mem_singleton.1 hb; have h3 := Hlo_qd0.out b hm; have h4 := Hhi_qd0.out b hm; omega))
  replace HW := hide (below_only HW.out hon (fun b hb => by have h1 := Hlo_qd0.out b hb; omega))
  replace Hqd0 := hide (Keep.data hmk)
  have z10 := hon.size
  clear hon hmk
  have c_qx0_0 : (u12).cell? ⟨u5.heap.size, 0, none⟩ = some (.int .i64 y0_0) := cell_of_row _ _ 0 _ _ _ Hqx0.out.here
  have c_qx0_1 : (u12).cell? ⟨u5.heap.size, 1, none⟩ = some (.int .i64 y0_1) := cell_of_row _ _ 1 _ _ _ Hqx0.out.here
  have c_qx0_2 : (u12).cell? ⟨u5.heap.size, 2, none⟩ = some (.slice q0_a0 N0_0 q0_k0) := cell_of_row _ _ 2 _ _ _ Hqx0.out.here
  go_wp2_with fail
  refine (HhH0.out _ q0_a0 q0_k0 _ _ Hqd0.out.here).mono ?_
  rintro e u13 ⟨rfl, hb⟩
  clear c_qx0_0 c_qx0_1 c_qx0_2
  replace Hpd0 := hide (Hpd0.out.next hb)
  replace Hpx0 := hide (Hpx0.out.next hb)
  replace Hqd0 := hide (Hqd0.out.next hb)
  replace Hqx0 := hide (Hqx0.out.next hb)
  replace HW := hide (below_on HW.out hb)
  have z11 := hb.size
  clear hb
  go_wp2_with fail
  refine (HhT0.out _ HW.out).mono ?_
  rintro e u14 ⟨t0_a0, t0_k0, tb0, rfl, to0, tn0, hb⟩
  have Htn0 := hide tn0
  clear tn0
  replace Hpd0 := hide (Hpd0.out.next hb)
  replace Hpx0 := hide (Hpx0.out.next hb)
  replace Hqd0 := hide (Hqd0.out.next hb)
  replace Hqx0 := hide (Hqx0.out.next hb)
  replace HW := hide (below_on HW.out hb)
  have z12 := hb.size
  clear hb
  have lo_td0 : ∀ b ∈ tb0, u13.heap.size ≤ b := fun b hb => (HoldsL.lt _ _ _ to0 b hb).1
  have hi_td0 : ∀ b ∈ tb0, b < u14.heap.size := fun b hb => (HoldsL.lt _ _ _ to0 b hb).2
  have Htd0 := hide (Keep.data to0)
  clear to0
  have Hlo_td0 := hide lo_td0
  have Hhi_td0 := hide hi_td0
  clear lo_td0 hi_td0
  go_wp2_with fail
  refine (HhI.out _ t0_a0 t0_k0 _ _ HW.out Htd0.out.here).mono ?_
  rintro e u15 ⟨h0_a0, h0_k0, hf0, rfl, ho0, hn, hb⟩
  have Hhn := hide hn
  clear hn
  replace Hpd0 := hide (Hpd0.out.next hb)
  replace Hpx0 := hide (Hpx0.out.next hb)
  replace Hqd0 := hide (Hqd0.out.next hb)
  replace Hqx0 := hide (Hqx0.out.next hb)
  replace Htd0 := hide (Htd0.out.next hb)
  replace HW := hide (below_on HW.out hb)
  have z13 := hb.size
  clear hb
  have lo_hd0 : ∀ b ∈ hf0, u14.heap.size ≤ b := fun b hb => (HoldsL.lt _ _ _ ho0 b hb).1
  have hi_hd0 : ∀ b ∈ hf0, b < u15.heap.size := fun b hb => (HoldsL.lt _ _ _ ho0 b hb).2
  have Hhd0 := hide (Keep.data ho0)
  clear ho0
  have Hlo_hd0 := hide lo_hd0
  have Hhi_hd0 := hide hi_hd0
  clear lo_hd0 hi_hd0
  clear Htd0
  clear Hlo_td0 Hhi_td0
  have hal := (Below.refl (u15).heap.size (u15)).alloc (Nat.le_refl _) (.cells #[.int .i64 y0_0, .int .i64 y0_1, .slice h0_a0 N0_0 h0_k0] 36)
  have hsz13 := World.size_alloc (u15) (.cells #[.int .i64 y0_0, .int .i64 y0_1, .slice h0_a0 N0_0 h0_k0] 36)
  have Hhx0 := hide (Keep.new (u15) (.cells #[.int .i64 y0_0, .int .i64 y0_1, .slice h0_a0 N0_0 h0_k0] 36))
  replace Hpd0 := hide (Hpd0.out.next hal)
  replace Hpx0 := hide (Hpx0.out.next hal)
  replace Hqd0 := hide (Hqd0.out.next hal)
  replace Hqx0 := hide (Hqx0.out.next hal)
  replace Hhd0 := hide (Hhd0.out.next hal)
  replace HW := hide (below_on HW.out hal)
  clear hal
  have c_px0_0 : ((u15).alloc (.cells #[.int .i64 y0_0, .int .i64 y0_1, .slice h0_a0 N0_0 h0_k0] 36)).cell? ⟨u2.heap.size, 0, none⟩ = some (.int .i64 y0_0) := cell_of_row _ _ 0 _ _ _ Hpx0.out.here
  have c_px0_1 : ((u15).alloc (.cells #[.int .i64 y0_0, .int .i64 y0_1, .slice h0_a0 N0_0 h0_k0] 36)).cell? ⟨u2.heap.size, 1, none⟩ = some (.int .i64 y0_1) := cell_of_row _ _ 1 _ _ _ Hpx0.out.here
  have c_px0_2 : ((u15).alloc (.cells #[.int .i64 y0_0, .int .i64 y0_1, .slice h0_a0 N0_0 h0_k0] 36)).cell? ⟨u2.heap.size, 2, none⟩ = some (.slice p0_a0 N0_0 p0_k0) := cell_of_row _ _ 2 _ _ _ Hpx0.out.here
  have c_hx0_0 : ((u15).alloc (.cells #[.int .i64 y0_0, .int .i64 y0_1, .slice h0_a0 N0_0 h0_k0] 36)).cell? ⟨u15.heap.size, 0, none⟩ = some (.int .i64 y0_0) := cell_of_row _ _ 0 _ _ _ Hhx0.out.here
  have c_hx0_1 : ((u15).alloc (.cells #[.int .i64 y0_0, .int .i64 y0_1, .slice h0_a0 N0_0 h0_k0] 36)).cell? ⟨u15.heap.size, 1, none⟩ = some (.int .i64 y0_1) := cell_of_row _ _ 1 _ _ _ Hhx0.out.here
  have c_hx0_2 : ((u15).alloc (.cells #[.int .i64 y0_0, .int .i64 y0_1, .slice h0_a0 N0_0 h0_k0] 36)).cell? ⟨u15.heap.size, 2, none⟩ = some (.slice h0_a0 N0_0 h0_k0) := cell_of_row _ _ 2 _ _ _ Hhx0.out.here
  go_wp2_with fail
  generalize (u15).alloc (.cells #[.int .i64 y0_0, .int .i64 y0_1, .slice h0_a0 N0_0 h0_k0] 36) = V16 at *
  clear c_px0_0 c_px0_1 c_px0_2 c_hx0_0 c_hx0_1 c_hx0_2
  refine (HhQ0.out _ h0_a0 h0_k0 p0_a0 p0_k0 _ _ _ _ Hhd0.out.here Hpd0.out.here).mono ?_
  rintro e u17 ⟨rfl, hb⟩
  replace Hpd0 := hide (Hpd0.out.next hb)
  replace Hpx0 := hide (Hpx0.out.next hb)
  replace Hqd0 := hide (Hqd0.out.next hb)
  replace Hqx0 := hide (Hqx0.out.next hb)
  replace Hhd0 := hide (Hhd0.out.next hb)
  replace Hhx0 := hide (Hhx0.out.next hb)
  replace HW := hide (below_on HW.out hb)
  have z14 := hb.size
  clear hb
  have c_qx0_0 : (u17).cell? ⟨u5.heap.size, 0, none⟩ = some (.int .i64 y0_0) := cell_of_row _ _ 0 _ _ _ Hqx0.out.here
  have c_qx0_1 : (u17).cell? ⟨u5.heap.size, 1, none⟩ = some (.int .i64 y0_1) := cell_of_row _ _ 1 _ _ _ Hqx0.out.here
  have c_qx0_2 : (u17).cell? ⟨u5.heap.size, 2, none⟩ = some (.slice q0_a0 N0_0 q0_k0) := cell_of_row _ _ 2 _ _ _ Hqx0.out.here
  go_wp2_with fail
  refine (HhH0.out _ q0_a0 q0_k0 _ _ Hqd0.out.here).mono ?_
  rintro e u18 ⟨rfl, hb⟩
  clear c_qx0_0 c_qx0_1 c_qx0_2
  replace Hpd0 := hide (Hpd0.out.next hb)
  replace Hpx0 := hide (Hpx0.out.next hb)
  replace Hqd0 := hide (Hqd0.out.next hb)
  replace Hqx0 := hide (Hqx0.out.next hb)
  replace Hhd0 := hide (Hhd0.out.next hb)
  replace Hhx0 := hide (Hhx0.out.next hb)
  replace HW := hide (below_on HW.out hb)
  have z15 := hb.size
  clear hb
  go_wp2_with fail
  go_ret
  exact ⟨rfl, HW.out⟩

/-- What is wanted of DecodeUdp. -/
def DecodeUdpP (f : Nat) (Pre : World → Prop) (z0_0 : List Int) (m1 : Int) (m2 : Int) (y0_0 : Int) (y0_1 : Int) (L0_0 : List Int) (C1 : Int) : Prop :=
  ∀ (a0_0 : Option Addr) (n0_0 c0_0 : Nat) (W : World), z0_0.length = n0_0 → Arr W a0_0 z0_0 → n0_0 ≤ c0_0 → n0_0 ≤ 1048576 → Pre W → Calls Tryd.prog f #[.slice a0_0 n0_0 c0_0, .int .i64 m1, .int .i64 m2] W fun e w' => ∃ v0_0 : Value, e = .returned (.tuple #[.agg #[.int .i64 y0_0, .int .i64 y0_1, v0_0], .int .i64 C1]) ∧ OwnB w' W.heap.size v0_0 L0_0 ∧ Below W.heap.size W w'
set_option maxHeartbeats 4000000 in
theorem walkDecodeUdp1 (Pre : World → Prop) (hpre : ∀ (w w' : World), Pre w → Below w.heap.size w w' → Pre w') (z0_0 : List Int) (m1 : Int) (m2 : Int) (y0_0 : Int) (y0_1 : Int) (L0_0 : List Int) (C1 : Int) (hS : DecodeUdpP 17 Pre z0_0 m1 m2 y0_0 y0_1 L0_0 C1) (hI : DecodeUdpP 19 Pre z0_0 m1 m2 y0_0 y0_1 L0_0 C1) (len0_0 : L0_0.length ≤ 1048576) (a0_0 : Option Addr) (n0_0 c0_0 : Nat) (w : World) (hn0_0 : z0_0.length = n0_0) (ha0_0 : Arr w a0_0 z0_0) (hy0_0 : n0_0 ≤ 9223372036854775807) (hp : Pre w) :
    Calls Tryd.prog 4 #[.slice a0_0 n0_0 c0_0, .int .i64 m1, .int .i64 m2] w fun e w' => e = .returned (.bool true) ∧ Below w.heap.size w w' := by
  by_cases hbig : 1048576 < (n0_0 : Int)
  · clear hS hI hpre hp hn0_0 ha0_0
    go_enter Tryd.func4, Tryd.ntmps4
    go_wp2_with fail
    go_ret
    exact ⟨rfl, Below.refl _ _⟩
  have m0_0 : n0_0 ≤ 1048576 := by omega
  exact walkDecodeUdp0 w  a0_0 n0_0 c0_0
    [bytesD z0_0]
    m1
    m2
    y0_0 y0_1 L0_0.length
    [bytesD L0_0] [mkD (1) (bytesD L0_0)]
    C1
    (by
      omega)
    (by
      intro W hb
      refine (toB_d z0_0 _ _ _ W hn0_0 (ha0_0.below hb (Nat.le_refl _)) m0_0).mono ?_
      rintro e w' ⟨a', k', f, rfl, hd, hn, hb'⟩
      exact ⟨a', k', f ++ [], rfl, holdsL_one hd, by rw [List.append_nil]; exact hn, hb'⟩)
    (by
      intro W p0_a0 p0_k0 B0 bs0 hb g0
      obtain ⟨_, _, u0_f0, _, ee, eb0, u0_h0, u0_r0⟩ := holdsL_cons.1 g0
      cases ee
      obtain ⟨ar0_0, ln0_0, cp0_0⟩ := bytes_read u0_h0 ha0_0.1
      refine (hS _ _ _ W ln0_0 ar0_0 cp0_0 m0_0 (hpre w W hp hb)).mono ?_
      rintro e w' ⟨v0_0, rfl, o0_0, hb'⟩
      obtain ⟨q0_0, k0_0, rfl, hd0_0⟩ := own_holds o0_0
      exact ⟨q0_0, k0_0, _, rfl, holdsL_cons.2 ⟨_, _, _, _, rfl, rfl, hd0_0, holdsL_nil.2 ⟨rfl, rfl⟩⟩, by simp only [List.append_nil]; exact own_nodup _, hb'⟩)
    (by
      intro W p0_a0 p0_k0 B0 bs0 hb g0
      obtain ⟨_, _, u0_f0, _, ee, eb0, u0_h0, u0_r0⟩ := holdsL_cons.1 g0
      cases ee
      obtain ⟨ar0_0, ln0_0, cp0_0⟩ := bytes_read u0_h0 ha0_0.1
      refine (hI _ _ _ W ln0_0 ar0_0 cp0_0 m0_0 (hpre w W hp hb)).mono ?_
      rintro e w' ⟨v0_0, rfl, o0_0, hb'⟩
      obtain ⟨q0_0, k0_0, rfl, hd0_0⟩ := own_holds o0_0
      exact ⟨q0_0, k0_0, _, rfl, holdsL_cons.2 ⟨_, _, _, _, rfl, rfl, hd0_0, holdsL_nil.2 ⟨rfl, rfl⟩⟩, by simp only [List.append_nil]; exact own_nodup _, hb'⟩)
    (by
      intro W pa0 pk0 qa0 qk0 B1 B2 b1 b2 h1 h2
      obtain ⟨_, _, uf0, _, ee, eb0, uh0, ur0⟩ := holdsL_cons.1 h1
      cases ee
      obtain ⟨_, _, vf0, _, ee, eb0, vh0, vr0⟩ := holdsL_cons.1 h2
      cases ee
      exact eqB_d z0_0 _ _ _ _ _ _ _ _ _ W uh0 vh0 m0_0)
    (by
      intro W pa0 pk0 qa0 qk0 B1 B2 b1 b2 h1 h2
      obtain ⟨_, _, uf0, _, ee, eb0, uh0, ur0⟩ := holdsL_cons.1 h1
      cases ee
      obtain ⟨_, _, vf0, _, ee, eb0, vh0, vr0⟩ := holdsL_cons.1 h2
      cases ee
      exact eqDatagram_d W y0_0 y0_1 pa0 L0_0.length pk0 qa0 qk0 (fun V hv => eqB_d L0_0 _ _ _ _ _ _ _ _ _ V (Holds.next uh0 hv) (Holds.next vh0 hv) len0_0))
    ((1 + n0_0 : Nat) : Int) (by omega)
    (by
      intro W pa0 pk0 B bs h hnd
      obtain ⟨_, _, uf0, _, ee, eb0, uh0, ur0⟩ := holdsL_cons.1 h
      cases ee
      obtain ⟨_, rfl⟩ := holdsL_nil.1 ur0
      subst eb0
      rw [List.append_nil] at hnd
      refine (markB_d z0_0 _ _ _ B _ (1) W uh0 hnd (by omega)).mono ?_
      rintro e w' ⟨rfl, _, hon⟩
      exact ⟨rfl, by rw [List.append_nil]; exact hon⟩)
    ((1 + L0_0.length : Nat) : Int) (by omega)
    (by
      intro W pa0 pk0 B bs h hnd
      exact markDatagram_d W y0_0 y0_1 pa0 L0_0.length pk0 (bytesD L0_0) (mkD (1) (bytesD L0_0)) ((1 : Nat) : Int) ((1 + L0_0.length : Nat) : Int) B bs (fun V f hh hn => markB_d L0_0 _ _ _ _ _ (1) V hh hn (by omega)) h hnd)
    (by
      intro W pa0 pk0 B bs h
      exact heldDatagram_d W y0_0 y0_1 pa0 L0_0.length pk0 (mkD (1) (bytesD L0_0)) ((1 : Nat) : Int) ((1 + L0_0.length : Nat) : Int) B bs (by omega) (fun V f hh => heldB_d L0_0 _ _ _ _ _ (1) V rfl hh (by omega)) h)
end Go.Proofs.YtakoagfeiolkjabDoor
