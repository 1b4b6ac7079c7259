/-
Contracts of functions of this seat.
-/
import Derived.Test.YtednldijgijheaaRows
import Derived.WalkKit
import Derived.ProofKit
import Derived.OpenShut
import Derived.Test.YtednldijgijheaaRws
namespace Go.Proofs.Ytednldijgijheaa
open Go.ChangeShapes Go.WideShapes Go.ChangeAt Go.RowKit
set_option linter.unusedVariables false
set_option maxRecDepth 100000
def frN (n0 : Nat) (mtu : Int) : Nat := ((mtu - 20 - (n0 : Int)) / 8 * 8).toNat
/-- The j-th fragment, n bytes each. -/
def frag (p : PacketM) (n j : Nat) : PacketM := { p with f3 := if (j + 1) * n < p.f10.length then true else p.f3, f4 := p.f4 + ((j * n : Nat) : Int), f10 := (p.f10.drop (j * n)).take n }
def frs (p : PacketM) (n j : Nat) : List PacketM := (List.range j).map (frag p n)
theorem frs_len (p : PacketM) (n j : Nat) : (frs p n j).length = j := by unfold frs; simp
theorem frs_succ (p : PacketM) (n j : Nat) : (frs p n (j + 1)).flatMap dPacket = (frs p n j).flatMap dPacket ++ dPacket (frag p n j) := by
  unfold frs
  rw [List.range_succ, List.map_append, List.flatMap_append]
  simp
def frM (len n : Nat) : Nat := (len + n - 1) / n
theorem frM_lo (len n i : Nat) (hn : 0 < n) (h : i < frM len n) : i * n < len := by
  unfold frM at h
  have h1 : (i + 1) * n ≤ len + n - 1 := (Nat.le_div_iff_mul_le hn).1 h
  rw [Nat.succ_mul] at h1
  omega
theorem frM_hi (len n : Nat) (hn : 0 < n) : len ≤ frM len n * n := by
  unfold frM
  have h1 := Nat.div_add_mod (len + n - 1) n
  have h2 := Nat.mod_lt (len + n - 1) hn
  rw [Nat.mul_comm] at h1
  omega
theorem frM_is (len n j : Nat) (hn : 0 < n) (h1 : ∀ i, i < j → i * n < len) (h2 : len ≤ j * n) : j = frM len n := by
  rcases Nat.lt_trichotomy j (frM len n) with h | h | h
  · have := frM_lo len n j hn h; omega
  · exact h
  · have := h1 _ h; have := frM_hi len n hn; omega
theorem holdsPk {w : World} {B : Nat} {o : PacketM} {u v : Value} (h0 : OwnB w B u o.f9) (h1 : OwnB w B v o.f10) : HoldsL w B (dPacket o) [.int .i64 o.f0, .int .i64 o.f1, .bool o.f2, .bool o.f3, .int .i64 o.f4, .int .i64 o.f5, .int .i64 o.f6, .int .i64 o.f7, .int .i64 o.f8, u, v] (u.ownBlock.toList ++ v.ownBlock.toList) := by
  have c : ∀ (x : Value), Holds w B (.c x) x [] := fun x => holds_c.2 ⟨rfl, rfl⟩
  exact holdsL_cons.2 ⟨_, _, [], _, rfl, rfl, c _, holdsL_cons.2 ⟨_, _, [], _, rfl, rfl, c _, holdsL_cons.2 ⟨_, _, [], _, rfl, rfl, c _, holdsL_cons.2 ⟨_, _, [], _, rfl, rfl, c _, holdsL_cons.2 ⟨_, _, [], _, rfl, rfl, c _, holdsL_cons.2 ⟨_, _, [], _, rfl, rfl, c _, holdsL_cons.2 ⟨_, _, [], _, rfl, rfl, c _, holdsL_cons.2 ⟨_, _, [], _, rfl, rfl, c _, holdsL_cons.2 ⟨_, _, [], _, rfl, rfl, c _, holdsL_cons.2 ⟨_, _, _, _, rfl, rfl, bytes_own h0, holdsL_cons.2 ⟨_, _, _, [], rfl, by simp, bytes_own h1, holdsL_nil.2 ⟨rfl, rfl⟩⟩⟩⟩⟩⟩⟩⟩⟩⟩⟩⟩
theorem nodupPk {u v : Value} (h : ∀ b, u.ownBlock = some b → v.ownBlock ≠ some b) : (u.ownBlock.toList ++ v.ownBlock.toList).Nodup := by
  rw [List.nodup_append]
  refine ⟨by cases u.ownBlock <;> simp, by cases v.ownBlock <;> simp, ?_⟩
  intro a ha b hb e
  subst e
  exact h a (by simpa using ha) (by simpa using hb)
theorem Try.infoPk : (Try.prog.info? 29).map (fun i => (i.zero, i.size, i.bytes)) = some (some (.agg #[.int .i64 0, .int .i64 0, .bool false, .bool false, .int .i64 0, .int .i64 0, .int .i64 0, .int .i64 0, .int .i64 0, .slice none 0 0, .slice none 0 0]), 11, 112) := by kernel_rfl
/-- A part of a slice, its end a sum. -/
theorem sl_sum (b off n cap p k : Nat) (hk : p + k ≤ cap) (hc : p < cap) (w : World) : (Instr.slice 22 (.slice (some ⟨b, off, none⟩) n cap) (some (.int .i64 (p : Int))) (some (.int .i64 ((p : Int) + (k : Int)))) none).run Try.prog w = .ok (.slice (some ⟨b, off + p, none⟩) k (cap - p)) w := by
  have hs : (sizeOf (Try.prog.elem 22)).run Try.prog w = .ok 1 w := Try.sizeOf5 w
  have he := run_slice_lh (P := Try.prog) (w := w) 22 (some ⟨b, off, none⟩) n cap Try.underlying22 .i64 .i64 (p : Int) ((p : Int) + (k : Int)) (by omega) (by omega) (by omega)
  rw [he, hs]
  simp [sliced, Result.andThen, Addr.add_lit]
  omega

set_option maxHeartbeats 8000000 in
theorem specFrag_cut (x0 x1 : Int) (x3 : Bool) (x4 x5 x6 x7 x8 : Int) (a0 : Option Addr) (n0 c0 b off n1 c1 : Nat) (z0 z1 : List Int) (mtu : Int) (w : World) (h0n : z0.length = n0) (h0a : Arr w a0 z0) (m0 : n0 ≤ 1048576) (h1n : z1.length = n1) (h1a : Arr w (some ⟨b, off, none⟩) z1) (m1 : n1 ≤ 1048576) (hc1 : n1 ≤ c1) (h4a : 0 ≤ x4) (h4b : x4 ≤ 65528) (hm1 : 68 ≤ mtu) (hm2 : mtu ≤ 65535) (hs : decide (20 + (n0 : Int) + (n1 : Int) ≤ mtu) = false) (n : Nat) (hnn : (mtu - 20 - (n0 : Int)) / 8 * 8 = (n : Int)) (hn8 : (8 : Int) ≤ (n : Int)) (hnb : n ≤ 65535)
   (cE : ∀ W, Below w.heap.size w W → Calls Try.prog 14 #[.agg #[.int .i64 x0, .int .i64 x1, .bool false, .bool x3, .int .i64 x4, .int .i64 x5, .int .i64 x6, .int .i64 x7, .int .i64 x8, .slice a0 n0 c0, .slice (some ⟨b, off, none⟩) n1 c1]] W fun e w' => ∃ v, e = .returned (.tuple #[v, .int .i64 0]) ∧ Below W.heap.size W w')
   (cP : ∀ W, Below w.heap.size w W → Calls Try.prog 15 #[.agg #[.int .i64 x0, .int .i64 x1, .bool false, .bool x3, .int .i64 x4, .int .i64 x5, .int .i64 x6, .int .i64 x7, .int .i64 x8, .slice a0 n0 c0, .slice (some ⟨b, off, none⟩) n1 c1]] W fun e w' => e = .returned (.int .i64 (20 + (n0 : Int) + (n1 : Int))) ∧ Below W.heap.size W w') :
    Calls Try.prog 5 #[.agg #[.int .i64 x0, .int .i64 x1, .bool false, .bool x3, .int .i64 x4, .int .i64 x5, .int .i64 x6, .int .i64 x7, .int .i64 x8, .slice a0 n0 c0, .slice (some ⟨b, off, none⟩) n1 c1], .int .i64 mtu] w fun e w' => ∃ v, e = .returned (.tuple #[v, .int .i64 0]) ∧ RowsOf w' (w.heap.size + 1) 29 11 v (frM n1 n) ((frs ⟨x0, x1, false, x3, x4, x5, x6, x7, x8, z0, z1⟩ n (frM n1 n)).flatMap dPacket) ∧ Below w.heap.size w w' := by
  obtain ⟨inf, hi, hz0, hz1, hz2⟩ := info_parts Try.infoPk
  have HB := hide (BoxPacket.start w x0 x1 false x3 x4 x5 x6 x7 x8 (.slice a0 n0 c0) (.slice (some ⟨b, off, none⟩) n1 c1) 29)
  have CE := hide cE
  have CP := hide cP
  have CY := hide (fun W (hb : Below w.heap.size w W) => l06Copy_walk x0 x1 false x3 x4 x5 x6 x7 x8 a0 n0 c0 (some ⟨b, off, none⟩) n1 c1 z0 z1 W h0n (h0a.below hb (Nat.le_refl _)) m0 h1n (h1a.below hb (Nat.le_refl _)) m1)
  have HA1 := hide h1a
  have HZ0 := hide h0n
  have HZ1 := hide h1n
  have HNN := hide hnn
  clear cE cP h0a h1a h0n h1n hnn
  obtain ⟨_, _, k0, k1, k2, k3, k4, k5, k6, k7, k8, k9, k10⟩ := HB.out
  go_enter Try.func5, Try.ntmps5
  go_wp2_with fail
  refine (CE.out _ HB.out.1).mono ?_
  rintro e w1 ⟨v, rfl, hb1⟩
  have HB1 := hide (HB.out.next hb1)
  clear k0 k1 k2 k3 k4 k5 k6 k7 k8 k9 k10 HB hb1
  obtain ⟨_, _, k0, k1, k2, k3, k4, k5, k6, k7, k8, k9, k10⟩ := HB1.out
  go_wp2_with fail
  refine (CP.out _ HB1.out.1).mono ?_
  rintro e w2 ⟨rfl, hb2⟩
  have HB2 := hide (HB1.out.next hb2)
  clear k0 k1 k2 k3 k4 k5 k6 k7 k8 k9 k10 HB1 hb2 CE CP
  obtain ⟨_, _, k0, k1, k2, k3, k4, k5, k6, k7, k8, k9, k10⟩ := HB2.out
  have hnn := HNN.out
  go_wp2_with fail
  clear hnn k0 k1 k2 k3 k4 k5 k6 k7 k8 k9 k10
  have HST : Hid (RowsOf (w2.alloc (.cells #[] 29)) (w.heap.size + 1) 29 11 (.slice (some ⟨w2.heap.size, 0, none⟩) 0 0) 0 []) := hide ⟨[], [], World.ownsRow_lit (base := w.heap.size + 1) (e := 29) (size := 11) w2 #[] 0 HB2.out.2.1 (by decide) rfl, holdsL_nil.2 ⟨rfl, rfl⟩, by simp [Value.ownBlock]⟩
  have HB3 := hide (HB2.out.next ((Below.refl _ _).alloc (Nat.le_refl _) (.cells #[] 29)))
  clear HB2
  generalize w2.alloc (.cells #[] 29) = W at *
  generalize w2.heap.size = G at *
  go_loopw [9, 10] (fun o t wx => ∃ j at_ : Nat, t = .int .i64 (at_ : Int) ∧ Hid (at_ = j * n) ∧ at_ ≤ 2097152 ∧ Hid (∀ i, i < j → i * n < n1) ∧ Hid (RowsOf wx (w.heap.size + 1) 29 11 o j ((frs ⟨x0, x1, false, x3, x4, x5, x6, x7, x8, z0, z1⟩ n j).flatMap dPacket)) ∧ Hid (BoxPacket w wx x0 x1 false x3 x4 x5 x6 x7 x8 (.slice a0 n0 c0) (.slice (some ⟨b, off, none⟩) n1 c1))) (fun _ t _ => 3145728 - (intOf t).toNat)
  case atStart => exact ⟨0, 0, rfl, hide (by simp), by omega, hide (fun i hi => by omega), HST, HB3⟩
  case round =>
    obtain ⟨j, at_, rfl, HAT, hat, HLO, HRW, HBr⟩ := hrel
    clear HST HB3
    obtain ⟨_, hbsz, k0, k1, k2, k3, k4, k5, k6, k7, k8, k9, k10⟩ := HBr.out
    by_cases hlt : at_ < n1
    · go_wp2_with fail
      refine (CY.out wr HBr.out.1).mono ?_
      rintro e w3 ⟨v0, v1, rfl, hO0, hO1, hap, hb3⟩
      obtain ⟨b0, d0, rfl, _⟩ := own_slice hO0
      obtain ⟨b1, d1, rfl, _⟩ := own_slice hO1
      have HBs := hide (HBr.out.next hb3)
      have HWR := hide hb3
      have HO0 := hide hO0
      have hz3 := hb3.size
      have hne1 : ¬ w.heap.size = w3.heap.size := by omega
      have hne2 : ¬ w3.heap.size = w.heap.size := by omega
      clear k0 k1 k2 k3 k4 k5 k6 k7 k8 k9 k10 hb3 hO0 hO1 hap
      have q4 : ∀ o : Obj, (w3.alloc o).cell? ⟨w.heap.size, 4, none⟩ = some (.int .i64 x4) := fun o => by
        obtain ⟨_, _, k0, k1, k2, k3, k4, k5, k6, k7, k8, k9, k10⟩ := HBs.out.next ((Below.refl _ _).alloc (Nat.le_refl _) o)
        exact k4
      have q10 : ∀ o : Obj, (w3.alloc o).cell? ⟨w.heap.size, 10, none⟩ = some (.slice (some ⟨b, off, none⟩) n1 c1) := fun o => by
        obtain ⟨_, _, k0, k1, k2, k3, k4, k5, k6, k7, k8, k9, k10⟩ := HBs.out.next ((Below.refl _ _).alloc (Nat.le_refl _) o)
        exact k10
      have sl1 := sl_sum b off n1 c1 at_ n
      have sl2 := sl_from b off n1 c1 at_ (by omega) (by omega)
      by_cases hlast : at_ + n < n1
      · have sl3 := sl1 (by omega) (by omega)
        clear sl1 sl2
        go_wp2_with fail
        clear sl3 q4 q10
        have HE : Hid (dPacket (frag ⟨x0, x1, false, x3, x4, x5, x6, x7, x8, z0, z1⟩ n j) = dPacket ⟨x0, x1, false, true, x4 + (at_ : Int), x5, x6, x7, x8, z0, (z1.drop at_).take n⟩) := hide (by
          have h1 := HAT.out
          have h2 := HZ1.out
          unfold frag
          simp only
          rw [h1, h2, if_pos (show (j + 1) * n < n1 by rw [Nat.succ_mul, ← h1]; omega)])
        have hal := (Below.refl w3.heap.size w3).alloc (Nat.le_refl _) (pkObj x0 x1 false true (x4 + (at_ : Int)) x5 x6 x7 x8 (.slice b0 z0.length d0) (.slice b1 z1.length d1))
        have HQ4 : Hid ((w3.alloc (pkObj x0 x1 false true (x4 + (at_ : Int)) x5 x6 x7 x8 (.slice b0 z0.length d0) (.slice b1 z1.length d1))).heap[w3.heap.size]? = some (pkObj x0 x1 false true (x4 + (at_ : Int)) x5 x6 x7 x8 (.slice b0 z0.length d0) (.slice b1 z1.length d1))) := hide (heap_alloc_new _ _)
        have hs4 := World.size_alloc w3 (pkObj x0 x1 false true (x4 + (at_ : Int)) x5 x6 x7 x8 (.slice b0 z0.length d0) (.slice b1 z1.length d1))
        have HW4 := hide ((HWR.out).trans (hal.mono hz3))
        have HP4 := hide (HO0.out.next hal)
        have HB4 := hide (HBs.out.next hal)
        generalize w3.alloc (pkObj x0 x1 false true (x4 + (at_ : Int)) x5 x6 x7 x8 (.slice b0 z0.length d0) (.slice b1 z1.length d1)) = W4 at *
        have hlq := own_lt HO0.out
        generalize w3.heap.size = Q at *
        clear hal HO0 HBs HWR
        have harr : Arr W4 (some ⟨b, off + at_, none⟩) ((z1.drop at_).take n) := ((HA1.out.below HB4.out.1 (Nat.le_refl _)).drop at_).take n
        refine (l01Copy_walk (some ⟨b, off + at_, none⟩) (n) (c1 - at_) ((z1.drop at_).take n) W4 (by rw [List.length_take, List.length_drop, HZ1.out]; omega) harr (by omega)).mono ?_
        rintro e w5 ⟨v2, rfl, hO2, hb5⟩
        have HAPT := hide (apart_own HP4.out hO2 (Nat.le_refl _))
        obtain ⟨b2, d2, hv2, _⟩ := own_slice hO2
        obtain ⟨L2, hL2⟩ : ∃ L2, L2 = ((z1.drop at_).take n).length := ⟨_, rfl⟩
        rw [← hL2] at hv2
        subst hv2
        clear hL2
        have HQ5 : Hid (w5.heap[Q]? = some (pkObj x0 x1 false true (x4 + (at_ : Int)) x5 x6 x7 x8 (.slice b0 z0.length d0) (.slice b1 z1.length d1))) := hide ((hb5.block Q (by omega)).trans HQ4.out)
        have HP5 := hide (HP4.out.next hb5)
        have HO5 := hide hO2
        have HW5 := hide (HW4.out.trans (hb5.mono HW4.out.size))
        have hz4 := HW4.out.size
        have hz5 := hb5.size
        clear HQ4 HP4 hO2 hb5 HB4 HW4 harr
        obtain ⟨r0, r1, r2, r3, r4, r5, r6, r7, r8, r9, r10, rf⟩ := cellsQ HQ5.out
        have HW6 := hide (below_set_new HW5.out (R := Q) (by omega) 10 (.slice b2 L2 d2))
        have HP6 := hide (HP5.out.only (Only.of_some (grown_cell0 w5 Q 10 (.slice b2 L2 d2))) (fun k hk hm => by rw [List.mem_singleton.1 hm] at hk; have := hlq _ hk; omega))
        have HO6 := hide (HO5.out.setBelow (a := ⟨Q, 10, none⟩) (by show Q < W4.heap.size; omega) (.slice b2 L2 d2))
        clear HQ5 HP5 HO5 HW5
        have HS6 : Hid ((w5.setCell ⟨Q, 10, none⟩ (.slice b2 L2 d2)).heap.size = w5.heap.size) := hide (by simp)
        obtain ⟨xs, fs, ho, hl, hnd⟩ := HRW.out
        have HL := hide hl
        have HND := hide hnd
        have HO := hide ho
        have hjb : j ≤ 1048576 := by
          have h1 := HAT.out
          have h2 : j * 1 ≤ j * n := Nat.mul_le_mul_left _ (by omega)
          omega
        clear ho hl hnd
        have HNEWS : Hid (∀ j u, ([.int .i64 x0, .int .i64 x1, .bool false, .bool true, .int .i64 (x4 + (at_ : Int)), .int .i64 x5, .int .i64 x6, .int .i64 x7, .int .i64 x8, .slice b0 z0.length d0, .slice b2 L2 d2] : List Value)[j]? = some u → ((w5.setCell ⟨Q, 10, none⟩ (.slice b2 L2 d2)).alloc (.cells #[.int .i64 x0, .int .i64 x1, .bool false, .bool true, .int .i64 (x4 + (at_ : Int)), .int .i64 x5, .int .i64 x6, .int .i64 x7, .int .i64 x8, .slice b0 z0.length d0, .slice b2 L2 d2] 29)).cell? ((⟨w5.heap.size, 0, none⟩ : Addr).add j) = some u) := hide (by
          have h := news_alloc (w5.setCell ⟨Q, 10, none⟩ (.slice b2 L2 d2)) [.int .i64 x0, .int .i64 x1, .bool false, .bool true, .int .i64 (x4 + (at_ : Int)), .int .i64 x5, .int .i64 x6, .int .i64 x7, .int .i64 x8, .slice b0 z0.length d0, .slice b2 L2 d2] 29
          rw [HS6.out] at h
          exact h)
        go_wp2_with (first | (at_builtin; refine wpList_append_own _ rfl _ _ 26 rfl (w.heap.size + 1) 29 inf _ 11 112 Try.underlying26 hi hz0 hz1 hz2 rfl (by decide) u9 j xs rfl ((row_below HO.out HW6.out).alloc _) ⟨w5.heap.size, 0, none⟩ 1 1 [.int .i64 x0, .int .i64 x1, .bool false, .bool true, .int .i64 (x4 + (at_ : Int)), .int .i64 x5, .int .i64 x6, .int .i64 x7, .int .i64 x8, .slice b0 z0.length d0, .slice b2 L2 d2] rfl rfl (by exact HNEWS.out) (by intro u hu; simp only [List.mem_cons, List.not_mem_nil, or_false] at hu; rcases hu with rfl | rfl | rfl | rfl | rfl | rfl | rfl | rfl | rfl | rfl | rfl <;> rfl) (by unfold maxLen; omega) (by omega) (by have := HW6.out.size; rw [World.size_alloc]; omega) ?_))
        intro v' w7 hown' hgrow hnil
        have hWa := HW6.out.alloc HW6.out.size (.cells #[.int .i64 x0, .int .i64 x1, .bool false, .bool true, .int .i64 (x4 + (at_ : Int)), .int .i64 x5, .int .i64 x6, .int .i64 x7, .int .i64 x8, .slice b0 z0.length d0, .slice b2 L2 d2] 29)
        have hal6 := (Below.refl (w5.setCell ⟨Q, 10, none⟩ (.slice b2 L2 d2)).heap.size (w5.setCell ⟨Q, 10, none⟩ (.slice b2 L2 d2))).alloc (Nat.le_refl _) (.cells #[.int .i64 x0, .int .i64 x1, .bool false, .bool true, .int .i64 (x4 + (at_ : Int)), .int .i64 x5, .int .i64 x6, .int .i64 x7, .int .i64 x8, .slice b0 z0.length d0, .slice b2 L2 d2] 29)
        have hlt0 := HoldsL.lt _ _ _ HL.out
        have hlo0 := HO.out.lt
        have hge1 := HP6.out.ge
        have hge2 := HO6.out.ge
        have hN := holdsPk (o := ⟨x0, x1, false, true, x4 + (at_ : Int), x5, x6, x7, x8, z0, (z1.drop at_).take n⟩) ((HP6.out.mono (show w.heap.size + 1 ≤ wr.heap.size + 2 by omega)).next hal6) ((HO6.out.mono (show w.heap.size + 1 ≤ W4.heap.size by omega)).next hal6)
        have hR := RowsOf.more (row_below HO.out hWa) (HoldsL.frame _ _ _ HL.out (fun b hb => hWa.block b (hlt0 b hb).2)) HND.out hN (nodupPk HAPT.out) (fun q hq hm => by
          have h1 : wr.heap.size ≤ q := by
            rcases List.mem_append.1 hq with h | h
            · have := hge1 q (by simpa using h); omega
            · have := hge2 q (by simpa using h); omega
          rcases List.mem_append.1 hm with h | h
          · have := (hlo0 q (by simpa using h)).2; omega
          · have := (hlt0 q h).2; omega) hown' hgrow (tysL_flat dPacket _ tys_packet _) (tys_packet _)
        rw [← HE.out, ← frs_succ] at hR
        have hbq : Below (w.heap.size + 1) _ w7 := (Below.refl (w.heap.size + 1) _).grown hgrow (by have := hWa.size; omega) (fun k hk => (hlo0 k hk).1)
        have HBf := hide (BoxPacket.keep (HBr.out.next hWa) hbq (Nat.lt_succ_self _))
        have HRf := hide hR
        clear hown' hgrow hnil hWa hal6 hlt0 hlo0 hge1 hge2 hN hR hbq HE HAPT HP6 HO6 HW6 HS6 HNEWS HL HND HO HRW HBr
        go_wp2_with fail
        exact ⟨⟨j + 1, at_ + n, by go_num, hide (by rw [Nat.succ_mul, ← HAT.out]), by omega, hide (fun i hi => by rcases Nat.lt_succ_iff_lt_or_eq.1 hi with h | h; exact HLO.out i h; subst h; rw [← HAT.out]; exact hlt), HRf, HBf⟩, by simp [intOf]; omega⟩
      · have hl2 : ¬ (at_ : Int) + (n : Int) < (n1 : Int) := by omega
        clear sl1
        go_wp2_with fail
        clear sl2 q4 q10 hl2
        have HE : Hid (dPacket (frag ⟨x0, x1, false, x3, x4, x5, x6, x7, x8, z0, z1⟩ n j) = dPacket ⟨x0, x1, false, x3, x4 + (at_ : Int), x5, x6, x7, x8, z0, z1.drop at_⟩) := hide (by
          have h1 := HAT.out
          have h2 := HZ1.out
          unfold frag
          simp only
          rw [h1, h2, if_neg (show ¬ (j + 1) * n < n1 by rw [Nat.succ_mul, ← h1]; omega), List.take_of_length_le (by rw [List.length_drop, h2]; omega)])
        have hal := (Below.refl w3.heap.size w3).alloc (Nat.le_refl _) (pkObj x0 x1 false x3 (x4 + (at_ : Int)) x5 x6 x7 x8 (.slice b0 z0.length d0) (.slice b1 z1.length d1))
        have HQ4 : Hid ((w3.alloc (pkObj x0 x1 false x3 (x4 + (at_ : Int)) x5 x6 x7 x8 (.slice b0 z0.length d0) (.slice b1 z1.length d1))).heap[w3.heap.size]? = some (pkObj x0 x1 false x3 (x4 + (at_ : Int)) x5 x6 x7 x8 (.slice b0 z0.length d0) (.slice b1 z1.length d1))) := hide (heap_alloc_new _ _)
        have hs4 := World.size_alloc w3 (pkObj x0 x1 false x3 (x4 + (at_ : Int)) x5 x6 x7 x8 (.slice b0 z0.length d0) (.slice b1 z1.length d1))
        have HW4 := hide ((HWR.out).trans (hal.mono hz3))
        have HP4 := hide (HO0.out.next hal)
        have HB4 := hide (HBs.out.next hal)
        generalize w3.alloc (pkObj x0 x1 false x3 (x4 + (at_ : Int)) x5 x6 x7 x8 (.slice b0 z0.length d0) (.slice b1 z1.length d1)) = W4 at *
        have hlq := own_lt HO0.out
        generalize w3.heap.size = Q at *
        clear hal HO0 HBs HWR
        have harr : Arr W4 (some ⟨b, off + at_, none⟩) (z1.drop at_) := (HA1.out.below HB4.out.1 (Nat.le_refl _)).drop at_
        refine (l01Copy_walk (some ⟨b, off + at_, none⟩) (n1 - at_) (c1 - at_) (z1.drop at_) W4 (by rw [List.length_drop, HZ1.out]) harr (by omega)).mono ?_
        rintro e w5 ⟨v2, rfl, hO2, hb5⟩
        have HAPT := hide (apart_own HP4.out hO2 (Nat.le_refl _))
        obtain ⟨b2, d2, hv2, _⟩ := own_slice hO2
        obtain ⟨L2, hL2⟩ : ∃ L2, L2 = (z1.drop at_).length := ⟨_, rfl⟩
        rw [← hL2] at hv2
        subst hv2
        clear hL2
        have HQ5 : Hid (w5.heap[Q]? = some (pkObj x0 x1 false x3 (x4 + (at_ : Int)) x5 x6 x7 x8 (.slice b0 z0.length d0) (.slice b1 z1.length d1))) := hide ((hb5.block Q (by omega)).trans HQ4.out)
        have HP5 := hide (HP4.out.next hb5)
        have HO5 := hide hO2
        have HW5 := hide (HW4.out.trans (hb5.mono HW4.out.size))
        have hz4 := HW4.out.size
        have hz5 := hb5.size
        clear HQ4 HP4 hO2 hb5 HB4 HW4 harr
        obtain ⟨r0, r1, r2, r3, r4, r5, r6, r7, r8, r9, r10, rf⟩ := cellsQ HQ5.out
        have HW6 := hide (below_set_new HW5.out (R := Q) (by omega) 10 (.slice b2 L2 d2))
        have HP6 := hide (HP5.out.only (Only.of_some (grown_cell0 w5 Q 10 (.slice b2 L2 d2))) (fun k hk hm => by rw [List.mem_singleton.1 hm] at hk; have := hlq _ hk; omega))
        have HO6 := hide (HO5.out.setBelow (a := ⟨Q, 10, none⟩) (by show Q < W4.heap.size; omega) (.slice b2 L2 d2))
        clear HQ5 HP5 HO5 HW5
        have HS6 : Hid ((w5.setCell ⟨Q, 10, none⟩ (.slice b2 L2 d2)).heap.size = w5.heap.size) := hide (by simp)
        obtain ⟨xs, fs, ho, hl, hnd⟩ := HRW.out
        have HL := hide hl
        have HND := hide hnd
        have HO := hide ho
        have hjb : j ≤ 1048576 := by
          have h1 := HAT.out
          have h2 : j * 1 ≤ j * n := Nat.mul_le_mul_left _ (by omega)
          omega
        clear ho hl hnd
        have HNEWS : Hid (∀ j u, ([.int .i64 x0, .int .i64 x1, .bool false, .bool x3, .int .i64 (x4 + (at_ : Int)), .int .i64 x5, .int .i64 x6, .int .i64 x7, .int .i64 x8, .slice b0 z0.length d0, .slice b2 L2 d2] : List Value)[j]? = some u → ((w5.setCell ⟨Q, 10, none⟩ (.slice b2 L2 d2)).alloc (.cells #[.int .i64 x0, .int .i64 x1, .bool false, .bool x3, .int .i64 (x4 + (at_ : Int)), .int .i64 x5, .int .i64 x6, .int .i64 x7, .int .i64 x8, .slice b0 z0.length d0, .slice b2 L2 d2] 29)).cell? ((⟨w5.heap.size, 0, none⟩ : Addr).add j) = some u) := hide (by
          have h := news_alloc (w5.setCell ⟨Q, 10, none⟩ (.slice b2 L2 d2)) [.int .i64 x0, .int .i64 x1, .bool false, .bool x3, .int .i64 (x4 + (at_ : Int)), .int .i64 x5, .int .i64 x6, .int .i64 x7, .int .i64 x8, .slice b0 z0.length d0, .slice b2 L2 d2] 29
          rw [HS6.out] at h
          exact h)
        go_wp2_with (first | (at_builtin; refine wpList_append_own _ rfl _ _ 26 rfl (w.heap.size + 1) 29 inf _ 11 112 Try.underlying26 hi hz0 hz1 hz2 rfl (by decide) u9 j xs rfl ((row_below HO.out HW6.out).alloc _) ⟨w5.heap.size, 0, none⟩ 1 1 [.int .i64 x0, .int .i64 x1, .bool false, .bool x3, .int .i64 (x4 + (at_ : Int)), .int .i64 x5, .int .i64 x6, .int .i64 x7, .int .i64 x8, .slice b0 z0.length d0, .slice b2 L2 d2] rfl rfl (by exact HNEWS.out) (by intro u hu; simp only [List.mem_cons, List.not_mem_nil, or_false] at hu; rcases hu with rfl | rfl | rfl | rfl | rfl | rfl | rfl | rfl | rfl | rfl | rfl <;> rfl) (by unfold maxLen; omega) (by omega) (by have := HW6.out.size; rw [World.size_alloc]; omega) ?_))
        intro v' w7 hown' hgrow hnil
        have hWa := HW6.out.alloc HW6.out.size (.cells #[.int .i64 x0, .int .i64 x1, .bool false, .bool x3, .int .i64 (x4 + (at_ : Int)), .int .i64 x5, .int .i64 x6, .int .i64 x7, .int .i64 x8, .slice b0 z0.length d0, .slice b2 L2 d2] 29)
        have hal6 := (Below.refl (w5.setCell ⟨Q, 10, none⟩ (.slice b2 L2 d2)).heap.size (w5.setCell ⟨Q, 10, none⟩ (.slice b2 L2 d2))).alloc (Nat.le_refl _) (.cells #[.int .i64 x0, .int .i64 x1, .bool false, .bool x3, .int .i64 (x4 + (at_ : Int)), .int .i64 x5, .int .i64 x6, .int .i64 x7, .int .i64 x8, .slice b0 z0.length d0, .slice b2 L2 d2] 29)
        have hlt0 := HoldsL.lt _ _ _ HL.out
        have hlo0 := HO.out.lt
        have hge1 := HP6.out.ge
        have hge2 := HO6.out.ge
        have hN := holdsPk (o := ⟨x0, x1, false, x3, x4 + (at_ : Int), x5, x6, x7, x8, z0, z1.drop at_⟩) ((HP6.out.mono (show w.heap.size + 1 ≤ wr.heap.size + 2 by omega)).next hal6) ((HO6.out.mono (show w.heap.size + 1 ≤ W4.heap.size by omega)).next hal6)
        have hR := RowsOf.more (row_below HO.out hWa) (HoldsL.frame _ _ _ HL.out (fun b hb => hWa.block b (hlt0 b hb).2)) HND.out hN (nodupPk HAPT.out) (fun q hq hm => by
          have h1 : wr.heap.size ≤ q := by
            rcases List.mem_append.1 hq with h | h
            · have := hge1 q (by simpa using h); omega
            · have := hge2 q (by simpa using h); omega
          rcases List.mem_append.1 hm with h | h
          · have := (hlo0 q (by simpa using h)).2; omega
          · have := (hlt0 q h).2; omega) hown' hgrow (tysL_flat dPacket _ tys_packet _) (tys_packet _)
        rw [← HE.out, ← frs_succ] at hR
        have hbq : Below (w.heap.size + 1) _ w7 := (Below.refl (w.heap.size + 1) _).grown hgrow (by have := hWa.size; omega) (fun k hk => (hlo0 k hk).1)
        have HBf := hide (BoxPacket.keep (HBr.out.next hWa) hbq (Nat.lt_succ_self _))
        have HRf := hide hR
        clear hown' hgrow hnil hWa hal6 hlt0 hlo0 hge1 hge2 hN hR hbq HE HAPT HP6 HO6 HW6 HS6 HNEWS HL HND HO HRW HBr
        go_wp2_with fail
        exact ⟨⟨j + 1, at_ + n, by go_num, hide (by rw [Nat.succ_mul, ← HAT.out]), by omega, hide (fun i hi => by rcases Nat.lt_succ_iff_lt_or_eq.1 hi with h | h; exact HLO.out i h; subst h; rw [← HAT.out]; exact hlt), HRf, HBf⟩, by simp [intOf]; omega⟩
    · have hge : n1 ≤ at_ := by omega
      have HJ : Hid (j = frM n1 n) := hide (frM_is n1 n j (by omega) HLO.out (by rw [← HAT.out]; exact hge))
      go_wp2_with fail
      go_ret2
      rw [← HJ.out]
      exact ⟨_, rfl, HRW.out, HBr.out.1⟩
end Go.Proofs.Ytednldijgijheaa
