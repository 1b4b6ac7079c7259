/-
Contracts of functions of this seat.
-/
import Derived.Test.YtakoagfeiolkjaaRows
import Derived.WalkKit
import Derived.ProofKit
import Derived.OpenShut
import Derived.Test.YtakoagfeiolkjaaLkp
namespace Go.Proofs.Ytakoagfeiolkjaa
open Go.ChangeShapes Go.WideShapes Go.ChangeAt Go.RowKit
set_option linter.unusedVariables false
set_option maxRecDepth 100000
/-- The numbers that lie as bytes from a on, whatever they are. -/
def ArrV (w : World) (a : Option Addr) (zs : List Int) : Prop := ∀ j, j < zs.length → ∃ b off, a = some ⟨b, off, none⟩ ∧ b < w.heap.size ∧ w.cell? ⟨b, off + j, none⟩ = some (.int .u8 (zs.getD j 0))
theorem bytes_arrV {w : World} {B : Nat} {zs : List Int} {a : Option Addr} {n cap : Nat} {bs : List Nat} (h : Holds w B (bytesD zs) (.slice a n cap) bs) : ArrV w a zs ∧ zs.length = n ∧ n ≤ cap := by
  rcases Holds.form h with ⟨e, h0, _⟩ | ⟨g, off, cap', e, hB, hg, hc, hl⟩
  · cases e
    exact ⟨fun j hj => by omega, h0, Nat.le_refl _⟩
  · cases e
    exact ⟨fun j hj => ⟨g, off, rfl, hg, Holds.cell h (byD_get zs j hj)⟩, rfl, hc⟩
theorem bytes_read {w : World} {B : Nat} {zs : List Int} {a : Option Addr} {n cap : Nat} {bs : List Nat} (h : Holds w B (bytesD zs) (.slice a n cap) bs) (hz : ∀ z ∈ zs, 0 ≤ z ∧ z ≤ 255) : Arr w a zs ∧ zs.length = n ∧ n ≤ cap :=
  ⟨⟨hz, (bytes_arrV h).1⟩, (bytes_arrV h).2⟩
set_option maxHeartbeats 1000000 in
theorem eqB_v (a b : Option Addr) (n c1 c2 : Nat) (zs : List Int) (w : World) (hn : zs.length = n) (ha : ArrV w a zs) (hb : ArrV w b zs) (hm : n ≤ 1048576) :
    Calls Try.prog 9 #[.slice a n c1, .slice b n c2] w fun e w' => e = .returned (.bool true) ∧ Below w.heap.size w w' := by
  have HN := hide hn
  have HA := hide ha
  have HB := hide hb
  clear hn ha hb
  go_enter Try.func9, Try.ntmps9
  go_wp2_with fail
  go_loopw [5] (fun t w2 => ∃ k : Nat, k ≤ n ∧ t = .int .i64 k ∧ Below w.heap.size w w2) (fun t _ => n - (intOf t).toNat)
  case atStart => exact ⟨0, Nat.zero_le _, rfl, Below.refl _ _⟩
  case round =>
    obtain ⟨k, hk, rfl, hbel⟩ := hrel
    by_cases hlt : k < n
    · obtain ⟨b1, o1, rfl, hb1, hc1⟩ := HA.out k (by rw [HN.out]; exact hlt)
      obtain ⟨b2, o2, rfl, hb2, hc2⟩ := HB.out k (by rw [HN.out]; exact hlt)
      have g1 : wr.cell? ⟨b1, o1 + k, none⟩ = some (.int .u8 (zs.getD k 0)) := by rw [hbel.cell (p := ⟨b1, o1 + k, none⟩) hb1]; exact hc1
      have g2 : wr.cell? ⟨b2, o2 + k, none⟩ = some (.int .u8 (zs.getD k 0)) := by rw [hbel.cell (p := ⟨b2, o2 + k, none⟩) hb2]; exact hc2
      clear hc1 hc2
      generalize zs.getD k 0 = z at g1 g2
      go_wp2
      go_quiet (fail)
      go_wp2
      exact ⟨⟨k + 1, by omega, by go_num, below_drewN hbel nq⟩, by simp [intOf]; omega⟩
    · go_wp2
      go_ret
      exact ⟨rfl, hbel⟩
theorem eqB_d (zs : List Int) (a b : Option Addr) (n c d : Nat) (B1 B2 : Nat) (f1 f2 : List Nat) (w : World) (h1 : Holds w B1 (bytesD zs) (.slice a n c) f1) (h2 : Holds w B2 (bytesD zs) (.slice b n d) f2) (hm : n ≤ 1048576) :
    Calls Try.prog 9 #[.slice a n c, .slice b n d] w fun e w' => e = .returned (.bool true) ∧ Below w.heap.size w w' :=
  eqB_v a b n c d zs w (bytes_arrV h1).2.1 (bytes_arrV h1).1 (bytes_arrV h2).1 hm
theorem toB_d (zs : List Int) (a : Option Addr) (n cap : Nat) (w : World) (hn : zs.length = n) (h : Arr w a zs) (hm : n ≤ 1048576) :
    Calls Try.prog 7 #[.slice a n cap] w fun e w' => ∃ (a' : Option Addr) (k' : Nat) (f : List Nat), e = .returned (.slice a' n k') ∧ Holds w' w.heap.size (bytesD zs) (.slice a' n k') f ∧ f.Nodup ∧ Below w.heap.size w w' := by
  refine (toByteS_own a n cap zs w hn h hm).mono ?_
  rintro e w' ⟨rfl, hO, hb⟩
  exact ⟨_, _, _, rfl, bytes_own hO, by simp [Value.ownBlock], hb⟩
theorem markB_d (zs : List Int) (a : Option Addr) (n c B : Nat) (bs : List Nat) (k : Nat) (w : World) (h : Holds w B (bytesD zs) (.slice a n c) bs) (hnd : bs.Nodup) (hk : k + n ≤ 1073741824) :
    Calls Try.prog 17 #[.slice a n c, .int .i64 (k : Int)] w fun e w' => e = .returned (.int .i64 ((k + n : Nat) : Int)) ∧ Holds w' B (mkD k (bytesD zs)) (.slice a n c) bs ∧ Only bs w w' := by
  have hn := (bytes_arrV h).2.1
  subst hn
  exact markByteS_d zs _ B bs k w h hnd hk
theorem heldB_d (zs : List Int) (a : Option Addr) (n c B : Nat) (bs : List Nat) (k : Nat) (w : World) (hn : zs.length = n) (h : Holds w B (mkD k (bytesD zs)) (.slice a n c) bs) (hk : k + n ≤ 1073741824) :
    Calls Try.prog 18 #[.slice a n c, .int .i64 (k : Int)] w fun e w' => e = .returned (.int .i64 ((k + n : Nat) : Int)) ∧ Below w.heap.size w w' := by
  subst hn
  refine (heldByteS_d zs _ B bs k w h hk).mono ?_
  rintro e w' ⟨rfl, rfl⟩
  exact ⟨rfl, Below.refl _ _⟩
theorem own_holds {w : World} {B : Nat} {v : Value} {zs : List Int} (h : OwnB w B v zs) : ∃ (a : Option Addr) (c : Nat), v = .slice a zs.length c ∧ Holds w B (bytesD zs) (.slice a zs.length c) v.ownBlock.toList := by
  obtain ⟨a, c, rfl, _⟩ := own_slice h
  exact ⟨a, c, rfl, bytes_own h⟩
theorem own_nodup (v : Value) : (v.ownBlock.toList).Nodup := by cases v.ownBlock <;> simp
theorem own_apart {u v : Value} (h : ∀ b, u.ownBlock = some b → v.ownBlock ≠ some b) : (u.ownBlock.toList ++ v.ownBlock.toList).Nodup := by
  rw [List.nodup_append]
  refine ⟨own_nodup u, own_nodup v, fun x hx y hy e => ?_⟩
  subst e
  exact h x (by simpa using hx) (by simpa using hy)

set_option maxHeartbeats 8000000 in
set_option maxRecDepth 100000 in
theorem walkFalseHead0 (w : World) (m0 : Int) (m1 : Int) (m2 : Int) (m3 : Int) (N0_0 : Nat) (rs0 ms0 : List D) (hS : ∀ (W : World), Below w.heap.size w W → Calls Try.prog 15 #[.int .i64 m0, .int .i64 m1, .int .i64 m2, .int .i64 m3] W fun e w' => ∃ (d0_a0 : Option Addr) (d0_k0 : Nat) (fs0 : List Nat), e = .returned (.slice d0_a0 N0_0 d0_k0) ∧ HoldsL w' W.heap.size rs0 [.slice d0_a0 N0_0 d0_k0] fs0 ∧ (fs0).Nodup ∧ Below W.heap.size W w') (hI : ∀ (W : World), Below w.heap.size w W → Calls Try.prog 16 #[.int .i64 m0, .int .i64 m1, .int .i64 m2, .int .i64 m3] W fun e w' => ∃ (d0_a0 : Option Addr) (d0_k0 : Nat) (fs0 : List Nat), e = .returned (.slice d0_a0 N0_0 d0_k0) ∧ HoldsL w' W.heap.size rs0 [.slice d0_a0 N0_0 d0_k0] fs0 ∧ (fs0).Nodup ∧ Below W.heap.size W w') (hQ0 : ∀ (W : World) (c0_a0 : Option Addr) (c0_k0 : Nat) (e0_a0 : Option Addr) (e0_k0 : Nat) (B1 B2 : Nat) (b1 b2 : List Nat), HoldsL W B1 rs0 [.slice c0_a0 N0_0 c0_k0] b1 → HoldsL W B2 rs0 [.slice e0_a0 N0_0 e0_k0] b2 → Calls Try.prog 9 #[.slice c0_a0 N0_0 c0_k0, .slice e0_a0 N0_0 e0_k0] W fun e w' => e = .returned (.bool true) ∧ Below W.heap.size W w') (q0 : Int) (hq0 : 0 ≤ q0) (hN0 : ∀ (W : World) (c0_a0 : Option Addr) (c0_k0 : Nat) (B : Nat) (bs : List Nat), HoldsL W B rs0 [.slice c0_a0 N0_0 c0_k0] bs → bs.Nodup → Calls Try.prog 17 #[.slice c0_a0 N0_0 c0_k0, .int .i64 1] W fun e w' => e = .returned (.int .i64 q0) ∧ HoldsL w' B ms0 [.slice c0_a0 N0_0 c0_k0] bs ∧ Only bs W w') (hH0 : ∀ (W : World) (c0_a0 : Option Addr) (c0_k0 : Nat) (B : Nat) (bs : List Nat), HoldsL W B ms0 [.slice c0_a0 N0_0 c0_k0] bs → Calls Try.prog 18 #[.slice c0_a0 N0_0 c0_k0, .int .i64 1] W fun e w' => e = .returned (.int .i64 q0) ∧ Below W.heap.size W w') :
    Calls Try.prog 5 #[.int .i64 m0, .int .i64 m1, .int .i64 m2, .int .i64 m3] w fun e w' => e = .returned (.bool true) ∧ Below w.heap.size w w' := by
  have HhS := hide hS
  have HhI := hide hI
  have HhQ0 := hide hQ0
  have HhN0 := hide hN0
  have HhH0 := hide hH0
  clear hS hI hQ0 hN0 hH0
  have HW := hide (Below.refl w.heap.size w)
  go_enter Try.func5, Try.ntmps5
  go_wp2_with fail
  have z0 : w.heap.size ≤ w.heap.size := Nat.le_refl _
  refine (HhS.out _ HW.out).mono ?_
  rintro e u1 ⟨p0_a0, p0_k0, pf0, rfl, po0, pn, hb⟩
  have Hpn := hide pn
  clear pn
  replace HW := hide (below_on HW.out hb)
  have z1 := hb.size
  clear hb
  have lo_pd0 : ∀ b ∈ pf0, w.heap.size ≤ b := fun b hb => (HoldsL.lt _ _ _ po0 b hb).1
  have hi_pd0 : ∀ b ∈ pf0, b < u1.heap.size := fun b hb => (HoldsL.lt _ _ _ po0 b hb).2
  have Hpd0 := hide (Keep.data po0)
  clear po0
  have Hlo_pd0 := hide lo_pd0
  have Hhi_pd0 := hide hi_pd0
  clear lo_pd0 hi_pd0
  go_wp2_with fail
  have zz1 := HW.out.size
  refine (HhI.out _ HW.out).mono ?_
  rintro e u2 ⟨q0_a0, q0_k0, qf0, rfl, qo0, qn, hb⟩
  have Hqn := hide qn
  clear qn
  replace Hpd0 := hide (Hpd0.out.next hb)
  replace HW := hide (below_on HW.out hb)
  have z2 := hb.size
  clear hb
  have lo_qd0 : ∀ b ∈ qf0, u1.heap.size ≤ b := fun b hb => (HoldsL.lt _ _ _ qo0 b hb).1
  have hi_qd0 : ∀ b ∈ qf0, b < u2.heap.size := fun b hb => (HoldsL.lt _ _ _ qo0 b hb).2
  have Hqd0 := hide (Keep.data qo0)
  clear qo0
  have Hlo_qd0 := hide lo_qd0
  have Hhi_qd0 := hide hi_qd0
  clear lo_qd0 hi_qd0
  go_wp2_with fail
  refine (HhQ0.out _ q0_a0 q0_k0 p0_a0 p0_k0 _ _ _ _ Hqd0.out.here Hpd0.out.here).mono ?_
  rintro e u3 ⟨rfl, hb⟩
  replace Hpd0 := hide (Hpd0.out.next hb)
  replace Hqd0 := hide (Hqd0.out.next hb)
  replace HW := hide (below_on HW.out hb)
  have z3 := hb.size
  clear hb
  go_wp2_with fail
  refine (HhN0.out _ q0_a0 q0_k0 _ _ Hqd0.out.here Hqn.out).mono ?_
  rintro e u4 ⟨rfl, hmk, hon⟩
  replace Hpd0 := hide (Hpd0.out.only hon (fun b hb hm => by have h1 := Hlo_pd0.out b hb; have h2 := Hhi_pd0.out b hb; have h3 := Hlo_qd0.out b hm; have h4 := Hhi_qd0.out b hm; omega))
  replace HW := hide (below_only HW.out hon (fun b hb => by have h1 := Hlo_qd0.out b hb; omega))
  replace Hqd0 := hide (Keep.data hmk)
  have z4 := hon.size
  clear hon hmk
  go_wp2_with fail
  refine (HhH0.out _ q0_a0 q0_k0 _ _ Hqd0.out.here).mono ?_
  rintro e u5 ⟨rfl, hb⟩
  replace Hpd0 := hide (Hpd0.out.next hb)
  replace Hqd0 := hide (Hqd0.out.next hb)
  replace HW := hide (below_on HW.out hb)
  have z5 := hb.size
  clear hb
  go_wp2_with fail
  refine (HhI.out _ HW.out).mono ?_
  rintro e u6 ⟨h0_a0, h0_k0, hf0, rfl, ho0, hn, hb⟩
  have Hhn := hide hn
  clear hn
  replace Hpd0 := hide (Hpd0.out.next hb)
  replace Hqd0 := hide (Hqd0.out.next hb)
  replace HW := hide (below_on HW.out hb)
  have z6 := hb.size
  clear hb
  have lo_hd0 : ∀ b ∈ hf0, u5.heap.size ≤ b := fun b hb => (HoldsL.lt _ _ _ ho0 b hb).1
  have hi_hd0 : ∀ b ∈ hf0, b < u6.heap.size := fun b hb => (HoldsL.lt _ _ _ ho0 b hb).2
  have Hhd0 := hide (Keep.data ho0)
  clear ho0
  have Hlo_hd0 := hide lo_hd0
  have Hhi_hd0 := hide hi_hd0
  clear lo_hd0 hi_hd0
  go_wp2_with fail
  refine (HhQ0.out _ h0_a0 h0_k0 p0_a0 p0_k0 _ _ _ _ Hhd0.out.here Hpd0.out.here).mono ?_
  rintro e u7 ⟨rfl, hb⟩
  replace Hpd0 := hide (Hpd0.out.next hb)
  replace Hqd0 := hide (Hqd0.out.next hb)
  replace Hhd0 := hide (Hhd0.out.next hb)
  replace HW := hide (below_on HW.out hb)
  have z7 := hb.size
  clear hb
  go_wp2_with fail
  refine (HhH0.out _ q0_a0 q0_k0 _ _ Hqd0.out.here).mono ?_
  rintro e u8 ⟨rfl, hb⟩
  replace Hpd0 := hide (Hpd0.out.next hb)
  replace Hqd0 := hide (Hqd0.out.next hb)
  replace Hhd0 := hide (Hhd0.out.next hb)
  replace HW := hide (below_on HW.out hb)
  have z8 := hb.size
  clear hb
  go_wp2_with fail
  go_ret
  exact ⟨rfl, HW.out⟩

/-- What is wanted of FalseHead. -/
def FalseHeadP (f : Nat) (Pre : World → Prop) (m0 : Int) (m1 : Int) (m2 : Int) (m3 : Int) (L0_0 : List Int) : Prop :=
  ∀  (W : World), Pre W → Calls Try.prog f #[.int .i64 m0, .int .i64 m1, .int .i64 m2, .int .i64 m3] W fun e w' => ∃ v0_0 : Value, e = .returned (v0_0) ∧ OwnB w' W.heap.size v0_0 L0_0 ∧ Below W.heap.size W w'
set_option maxHeartbeats 4000000 in
theorem walkFalseHead1 (Pre : World → Prop) (hpre : ∀ (w w' : World), Pre w → Below w.heap.size w w' → Pre w') (m0 : Int) (m1 : Int) (m2 : Int) (m3 : Int) (L0_0 : List Int) (hS : FalseHeadP 15 Pre m0 m1 m2 m3 L0_0) (hI : FalseHeadP 16 Pre m0 m1 m2 m3 L0_0) (len0_0 : L0_0.length ≤ 1048576)  (w : World)  (hp : Pre w) :
    Calls Try.prog 5 #[.int .i64 m0, .int .i64 m1, .int .i64 m2, .int .i64 m3] w fun e w' => e = .returned (.bool true) ∧ Below w.heap.size w w' := by
  exact walkFalseHead0 w m0
    m1
    m2
    m3
     L0_0.length
    [bytesD L0_0] [mkD (1) (bytesD L0_0)]
    (by
      intro W  hb 
      refine (hS  W  (hpre w W hp hb)).mono ?_
      rintro e w' ⟨v0_0, rfl, o0_0, hb'⟩
      obtain ⟨q0_0, k0_0, rfl, hd0_0⟩ := own_holds o0_0
      exact ⟨q0_0, k0_0, _, rfl, holdsL_cons.2 ⟨_, _, _, _, rfl, rfl, hd0_0, holdsL_nil.2 ⟨rfl, rfl⟩⟩, by simp only [List.append_nil]; exact own_nodup _, hb'⟩)
    (by
      intro W  hb 
      refine (hI  W  (hpre w W hp hb)).mono ?_
      rintro e w' ⟨v0_0, rfl, o0_0, hb'⟩
      obtain ⟨q0_0, k0_0, rfl, hd0_0⟩ := own_holds o0_0
      exact ⟨q0_0, k0_0, _, rfl, holdsL_cons.2 ⟨_, _, _, _, rfl, rfl, hd0_0, holdsL_nil.2 ⟨rfl, rfl⟩⟩, by simp only [List.append_nil]; exact own_nodup _, hb'⟩)
    (by
      intro W pa0 pk0 qa0 qk0 B1 B2 b1 b2 h1 h2
      obtain ⟨_, _, uf0, _, ee, eb0, uh0, ur0⟩ := holdsL_cons.1 h1
      cases ee
      obtain ⟨_, _, vf0, _, ee, eb0, vh0, vr0⟩ := holdsL_cons.1 h2
      cases ee
      exact eqB_d L0_0 _ _ _ _ _ _ _ _ _ W uh0 vh0 len0_0)
    ((1 + L0_0.length : Nat) : Int) (by omega)
    (by
      intro W pa0 pk0 B bs h hnd
      obtain ⟨_, _, uf0, _, ee, eb0, uh0, ur0⟩ := holdsL_cons.1 h
      cases ee
      obtain ⟨_, rfl⟩ := holdsL_nil.1 ur0
      subst eb0
      rw [List.append_nil] at hnd
      refine (markB_d L0_0 _ _ _ B _ (1) W uh0 hnd (by omega)).mono ?_
      rintro e w' ⟨rfl, hm, hon⟩
      exact ⟨rfl, holdsL_one hm, by rw [List.append_nil]; exact hon⟩)
    (by
      intro W pa0 pk0 B bs h
      obtain ⟨_, _, uf0, _, ee, eb0, uh0, ur0⟩ := holdsL_cons.1 h
      cases ee
      exact heldB_d L0_0 _ _ _ _ _ (1) W rfl uh0 (by omega))
end Go.Proofs.Ytakoagfeiolkjaa
