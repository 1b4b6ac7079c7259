/-
Contracts of functions of this seat.
-/
import Derived.Test.YtcnfnimgpiaamaaDoorRows
import Derived.WalkKit
import Derived.ProofKit
import Derived.OpenShut
import Derived.Test.YtcnfnimgpiaamaaDoorSw2
import Derived.Deep.DeepCutAuto
namespace Go.Proofs.YtcnfnimgpiaamaaDoor
open Go.ChangeShapes Go.WideShapes Go.ChangeAt Go.RowKit
set_option linter.unusedVariables false
set_option maxRecDepth 100000
/-- The segment's box, and what lies below. -/
abbrev ShW (w : World) (vs : Array Value) (W : World) : Prop := Below w.heap.size w W ∧ HoldV W w.heap.size vs sgT
theorem ShW.next {w W W' : World} {vs : Array Value} (h : ShW w vs W) (hb : Below W.heap.size W W') : ShW w vs W' := ⟨below_on h.1 hb, h.2.next hb⟩
theorem ShW.drewN {w W : World} {vs : Array Value} (h : ShW w vs W) (m : Nat) : ShW w vs (W.drewN m) := h.next (below_drewN (Below.refl _ _) m)

set_option maxHeartbeats 4000000 in
theorem specShowS_bad (x0 x1 x2 x3 x4 x5 x6 : Int) (x7 : Bool) (x8 : Int) (x9 : Bool) (a0 : Option Addr) (n0 c0 : Nat) (a1 : Option Addr) (n1 c1 : Nat) (z zs : List Int) (w : World) (hz : z.length = n0 * 2) (ha : ArrI w a0 z) (m0 : n0 ≤ 1048576) (hn : zs.length = n1) (hb : Arr w a1 zs) (h : sgOK x0 x1 x2 x3 x4 x5 x6 x7 x8 n0 z = false) :
    Calls Tryd.prog 8 #[.agg #[.int .i64 x0, .int .i64 x1, .int .i64 x2, .int .i64 x3, .int .i64 x4, .int .i64 x5, .int .i64 x6, .bool x7, .int .i64 x8, .bool x9, .slice a0 n0 c0, .slice a1 n1 c1]] w fun e w' => e = .returned (.tuple #[.string ⟨#[]⟩, .int .i64 1]) ∧ Below w.heap.size w w' := by
  have H0 : Hid (ShW w #[.int .i64 x0, .int .i64 x1, .int .i64 x2, .int .i64 x3, .int .i64 x4, .int .i64 x5, .int .i64 x6, .bool x7, .int .i64 x8, .bool x9, .slice a0 n0 c0, .slice a1 n1 c1] (w.alloc (.cells #[.int .i64 x0, .int .i64 x1, .int .i64 x2, .int .i64 x3, .int .i64 x4, .int .i64 x5, .int .i64 x6, .bool x7, .int .i64 x8, .bool x9, .slice a0 n0 c0, .slice a1 n1 c1] sgT))) := hide ⟨(Below.refl w.heap.size w).alloc (Nat.le_refl _) _, heap_alloc_new _ _⟩
  have HA := hide ha
  have HB := hide hb
  have HZ := hide hz
  have HN := hide hn
  clear hz ha hb hn

  go_enter Tryd.func8, Tryd.ntmps8
  go_upto_region 1 with fail
  generalize w.alloc (.cells #[.int .i64 x0, .int .i64 x1, .int .i64 x2, .int .i64 x3, .int .i64 x4, .int .i64 x5, .int .i64 x6, .bool x7, .int .i64 x8, .bool x9, .slice a0 n0 c0, .slice a1 n1 c1] sgT) = W0 at *
  have k0 := H0.out.2.cell 0 _ rfl; have k1 := H0.out.2.cell 1 _ rfl; have k2 := H0.out.2.cell 2 _ rfl; have k3 := H0.out.2.cell 3 _ rfl; have k4 := H0.out.2.cell 4 _ rfl; have k5 := H0.out.2.cell 5 _ rfl; have k6 := H0.out.2.cell 6 _ rfl; have k7 := H0.out.2.cell 7 _ rfl; have k8 := H0.out.2.cell 8 _ rfl; have k9 := H0.out.2.cell 9 _ rfl; have k10 := H0.out.2.cell 10 _ rfl; have k11 := H0.out.2.cell 11 _ rfl
  go_wp2_with fail
  refine (l11OK_walk x0 x1 x2 x3 x4 x5 x6 x7 x8 x9 a0 n0 c0 a1 n1 c1 z W0 HZ.out (HA.out.below H0.out.1 (Nat.le_refl _)) m0).mono ?_
  rw [h]
  rintro e w2 ⟨rfl, hb2⟩
  have H2 := hide (H0.out.next hb2)
  clear hb2 H0 k0 k1 k2 k3 k4 k5 k6 k7 k8 k9 k10 k11
  have k11 := H2.out.2.cell 11 _ rfl
  go_wp2_with fail
  go_ret2
  exact ⟨rfl, H2.out.1⟩
set_option maxHeartbeats 4000000 in
theorem specShowS_long (x0 x1 x2 x3 x4 x5 x6 : Int) (x7 : Bool) (x8 : Int) (x9 : Bool) (a0 : Option Addr) (n0 c0 : Nat) (a1 : Option Addr) (n1 c1 : Nat) (z zs : List Int) (w : World) (hz : z.length = n0 * 2) (ha : ArrI w a0 z) (m0 : n0 ≤ 1048576) (hn : zs.length = n1) (hb : Arr w a1 zs) (h : sgOK x0 x1 x2 x3 x4 x5 x6 x7 x8 n0 z = true) (hl : 4000 < n1) :
    Calls Tryd.prog 8 #[.agg #[.int .i64 x0, .int .i64 x1, .int .i64 x2, .int .i64 x3, .int .i64 x4, .int .i64 x5, .int .i64 x6, .bool x7, .int .i64 x8, .bool x9, .slice a0 n0 c0, .slice a1 n1 c1]] w fun e w' => e = .returned (.tuple #[.string ⟨#[]⟩, .int .i64 1]) ∧ Below w.heap.size w w' := by
  have H0 : Hid (ShW w #[.int .i64 x0, .int .i64 x1, .int .i64 x2, .int .i64 x3, .int .i64 x4, .int .i64 x5, .int .i64 x6, .bool x7, .int .i64 x8, .bool x9, .slice a0 n0 c0, .slice a1 n1 c1] (w.alloc (.cells #[.int .i64 x0, .int .i64 x1, .int .i64 x2, .int .i64 x3, .int .i64 x4, .int .i64 x5, .int .i64 x6, .bool x7, .int .i64 x8, .bool x9, .slice a0 n0 c0, .slice a1 n1 c1] sgT))) := hide ⟨(Below.refl w.heap.size w).alloc (Nat.le_refl _) _, heap_alloc_new _ _⟩
  have HA := hide ha
  have HB := hide hb
  have HZ := hide hz
  have HN := hide hn
  clear hz ha hb hn
  have hl2 : (4000 : Int) < (n1 : Int) := by omega

  go_enter Tryd.func8, Tryd.ntmps8
  go_upto_region 1 with fail
  generalize w.alloc (.cells #[.int .i64 x0, .int .i64 x1, .int .i64 x2, .int .i64 x3, .int .i64 x4, .int .i64 x5, .int .i64 x6, .bool x7, .int .i64 x8, .bool x9, .slice a0 n0 c0, .slice a1 n1 c1] sgT) = W0 at *
  have k0 := H0.out.2.cell 0 _ rfl; have k1 := H0.out.2.cell 1 _ rfl; have k2 := H0.out.2.cell 2 _ rfl; have k3 := H0.out.2.cell 3 _ rfl; have k4 := H0.out.2.cell 4 _ rfl; have k5 := H0.out.2.cell 5 _ rfl; have k6 := H0.out.2.cell 6 _ rfl; have k7 := H0.out.2.cell 7 _ rfl; have k8 := H0.out.2.cell 8 _ rfl; have k9 := H0.out.2.cell 9 _ rfl; have k10 := H0.out.2.cell 10 _ rfl; have k11 := H0.out.2.cell 11 _ rfl
  go_wp2_with fail
  refine (l11OK_walk x0 x1 x2 x3 x4 x5 x6 x7 x8 x9 a0 n0 c0 a1 n1 c1 z W0 HZ.out (HA.out.below H0.out.1 (Nat.le_refl _)) m0).mono ?_
  rw [h]
  rintro e w2 ⟨rfl, hb2⟩
  have H2 := hide (H0.out.next hb2)
  clear hb2 H0 k0 k1 k2 k3 k4 k5 k6 k7 k8 k9 k10 k11
  have k11 := H2.out.2.cell 11 _ rfl
  go_wp2_with fail
  go_ret2
  exact ⟨rfl, H2.out.1⟩
theorem sg_zb {z : List Int} (h : sgS z = true) (q : Nat) : 0 ≤ z.getD q 0 ∧ z.getD q 0 ≤ 4294967295 := by
  by_cases hq : q < z.length
  · exact adrB_iff.1 (sgS_at h q hq)
  · rw [List.getD_eq_getElem?_getD, List.getElem?_eq_none (by omega)]; exact ⟨by decide, by decide⟩
theorem strB_size (zs : List Int) : (strB zs).size = zs.length := by
  show (zs.map (fun z => UInt8.ofNat z.toNat)).toArray.size = _
  simp
set_option maxHeartbeats 32000000 in
theorem specShowS_ok (x0 x1 x2 x3 x4 x5 x6 : Int) (x7 : Bool) (x8 : Int) (x9 : Bool) (a0 : Option Addr) (n0 c0 : Nat) (a1 : Option Addr) (n1 c1 : Nat) (z zs : List Int) (w : World) (hz : z.length = n0 * 2) (ha : ArrI w a0 z) (m0 : n0 ≤ 1048576) (hn : zs.length = n1) (hb : Arr w a1 zs) (h : sgOK x0 x1 x2 x3 x4 x5 x6 x7 x8 n0 z = true) (hl : n1 ≤ 4000) :
    Calls Tryd.prog 8 #[.agg #[.int .i64 x0, .int .i64 x1, .int .i64 x2, .int .i64 x3, .int .i64 x4, .int .i64 x5, .int .i64 x6, .bool x7, .int .i64 x8, .bool x9, .slice a0 n0 c0, .slice a1 n1 c1]] w fun e w' => e = .returned (.tuple #[.string (shT x0 x1 x2 x3 x4 x5 x6 x7 x8 x9 n0 z zs), .int .i64 0]) ∧ Below w.heap.size w w' := by
  have H0 : Hid (ShW w #[.int .i64 x0, .int .i64 x1, .int .i64 x2, .int .i64 x3, .int .i64 x4, .int .i64 x5, .int .i64 x6, .bool x7, .int .i64 x8, .bool x9, .slice a0 n0 c0, .slice a1 n1 c1] (w.alloc (.cells #[.int .i64 x0, .int .i64 x1, .int .i64 x2, .int .i64 x3, .int .i64 x4, .int .i64 x5, .int .i64 x6, .bool x7, .int .i64 x8, .bool x9, .slice a0 n0 c0, .slice a1 n1 c1] sgT))) := hide ⟨(Below.refl w.heap.size w).alloc (Nat.le_refl _) _, heap_alloc_new _ _⟩
  have HA := hide ha
  have HB := hide hb
  have HZ := hide hz
  have HN := hide hn
  clear hz ha hb hn
  have hl2 : ¬ (4000 : Int) < (n1 : Int) := by omega
  obtain ⟨p0, p1, p2, p3, p4, p5, p6, p8, p3n, pS⟩ := sgOK_parts h
  have HZB : Hid (∀ q, 0 ≤ z.getD q 0 ∧ z.getD q 0 ≤ 4294967295) := hide (sg_zb pS)
  go_enter Tryd.func8, Tryd.ntmps8
  go_upto_region 1 with fail
  generalize w.alloc (.cells #[.int .i64 x0, .int .i64 x1, .int .i64 x2, .int .i64 x3, .int .i64 x4, .int .i64 x5, .int .i64 x6, .bool x7, .int .i64 x8, .bool x9, .slice a0 n0 c0, .slice a1 n1 c1] sgT) = W0 at *
  have k0 := H0.out.2.cell 0 _ rfl; have k1 := H0.out.2.cell 1 _ rfl; have k2 := H0.out.2.cell 2 _ rfl; have k3 := H0.out.2.cell 3 _ rfl; have k4 := H0.out.2.cell 4 _ rfl; have k5 := H0.out.2.cell 5 _ rfl; have k6 := H0.out.2.cell 6 _ rfl; have k7 := H0.out.2.cell 7 _ rfl; have k8 := H0.out.2.cell 8 _ rfl; have k9 := H0.out.2.cell 9 _ rfl; have k10 := H0.out.2.cell 10 _ rfl; have k11 := H0.out.2.cell 11 _ rfl
  go_wp2_with fail
  refine (l11OK_walk x0 x1 x2 x3 x4 x5 x6 x7 x8 x9 a0 n0 c0 a1 n1 c1 z W0 HZ.out (HA.out.below H0.out.1 (Nat.le_refl _)) m0).mono ?_
  rw [h]
  rintro e w2 ⟨rfl, hb2⟩
  have H2 := hide (H0.out.next hb2)
  clear hb2 H0 h k0 k1 k2 k3 k4 k5 k6 k7 k8 k9 k10 k11
  have k11 := H2.out.2.cell 11 _ rfl
  go_upto_region 3 with fail
  clear k11
  have CA := hide (fun W => decT_walk x0 (by omega) (by omega) W)
  have CB := hide (fun W => decT_walk x1 (by omega) (by omega) W)
  have s0 := decT_size x0 (by omega)
  have s1 := decT_size x1 (by omega)
  have e1 : Hid (((decT x0 ++ (⟨#[62]⟩ : ByteArray)) ++ decT x1) ++ (⟨#[32]⟩ : ByteArray) = shA x0 x1) := hide rfl
  generalize decT x0 = t0 at *
  generalize decT x1 = t1 at *
  have hK := ShW.next H2.out ((Below.refl _ _).drew)
  have hKX : ∀ wq, ShW w #[.int .i64 x0, .int .i64 x1, .int .i64 x2, .int .i64 x3, .int .i64 x4, .int .i64 x5, .int .i64 x6, .bool x7, .int .i64 x8, .bool x9, .slice a0 n0 c0, .slice a1 n1 c1] wq → wq.cell? ⟨w.heap.size, 0, none⟩ = some (.int .i64 x0) ∧ wq.cell? ⟨w.heap.size, 1, none⟩ = some (.int .i64 x1) := fun wq hs => ⟨hs.2.cell 0 _ rfl, hs.2.cell 1 _ rfl⟩
  clear H2
  refine wp_region_lex (fun w' => ShW w #[.int .i64 x0, .int .i64 x1, .int .i64 x2, .int .i64 x3, .int .i64 x4, .int .i64 x5, .int .i64 x6, .bool x7, .int .i64 x8, .bool x9, .slice a0 n0 c0, .slice a1 n1 c1] w') ((0, true) :: (1, true) :: (4, true) :: (5, true) :: (2, false) :: (3, true) :: (6, false) :: (7, true) :: (8, true) :: (9, true) :: []) (by kernel_rfl) (by kernel_rfl) (by kernel_rfl) rfl hK ?_
  repeat (first
    | (refine wpLex_take ?_ rfl (by rfl) (fun _ _ _ h => h) ?_ ?_; rotate_left; (intro wq hSw; (try dsimp only at hSw); (try have hkx := hKX _ hSw); first | (go_simp; done) | (go_simp; with_reducible rfl) | (go_simp; rw [if_neg (by (try simp only [ByteArray.size_append]); omega)])); simp only [Act.put, List.setIfInBounds_toArray, List.set_cons_zero, List.set_cons_succ])
    | (refine wpLex_act rfl (by rfl) ?_; intro KK hKK; go_simp; (first
        | (go_at_call 27; refine (CA.out _).mono ?_; clear CA; rintro e w' ⟨rfl, hbx⟩; have hK := ShW.next hK hbx; clear hbx)
        | (go_at_call 27; refine (CB.out _).mono ?_; clear CB; rintro e w' ⟨rfl, hbx⟩; have hK := ShW.next hK hbx; clear hbx)); (try go_wp2_with fail); refine hKK.out _ _ hK ?_; clear hKK KK; try simp only [Act.put, List.setIfInBounds_toArray, List.set_cons_zero, List.set_cons_succ]))
  refine wpLex_nil ?_
  rw [e1.out]
  clear e1 s0 s1 hKX
  have hzA := shA_size x0 x1 (by omega) (by omega)
  generalize hA9 : shA x0 x1 = o1 at *
  have HA9 := hide hA9
  clear hA9
  have HK := hide hK
  clear hK
  have k4 := HK.out.2.cell 4 _ rfl
  go_upto_if 27 with fail
  go_cut [4] (fun s4 wx => s4 = .string (shB x4 o1) ∧ Hid (ShW w #[.int .i64 x0, .int .i64 x1, .int .i64 x2, .int .i64 x3, .int .i64 x4, .int .i64 x5, .int .i64 x6, .bool x7, .int .i64 x8, .bool x9, .slice a0 n0 c0, .slice a1 n1 c1] wx))
  case first =>
    by_cases h4 : x4 = 0
    · subst h4
      clear k4
      go_wp2_with fail
      go_meet
      exact ⟨by unfold shB; rw [if_pos rfl], HK⟩
    · have hb4 : (x4 == 0) = false := beq_eq_false_iff_ne.2 h4
      have H4 := hide h4
      clear k4 h4
      go_wp2_with fail
      go_meet
      exact ⟨by unfold shB; rw [if_neg H4.out], HK⟩
  case rest =>
  clear HK
  obtain ⟨hs4, HK⟩ := hcut
  subst hs4
  have hzB := shB_size x4 o1
  generalize hB9 : shB x4 o1 = o2 at *
  have HB9 := hide hB9
  clear hB9
  go_wp2_with fail
  go_loopw [4, 5] (fun s t wx => ∃ k : Nat, k ≤ 6 ∧ s = .string (shF x4 o2 k) ∧ t = .int .i64 (k : Int) ∧ Hid (ShW w #[.int .i64 x0, .int .i64 x1, .int .i64 x2, .int .i64 x3, .int .i64 x4, .int .i64 x5, .int .i64 x6, .bool x7, .int .i64 x8, .bool x9, .slice a0 n0 c0, .slice a1 n1 c1] wx)) (fun _ t _ => 6 - (intOf t).toNat)
  case atStart => exact ⟨0, by omega, rfl, rfl, HK⟩
  case round =>
    obtain ⟨k, hk, rfl, rfl, HK2⟩ := hrel
    clear HK
    have hzF := shF_size x4 o2 k
    have HE : Hid (shF x4 o2 (k + 1) = if flagB x4 (bitL k) then shF x4 o2 k ++ ltr k else shF x4 o2 k) := hide rfl
    by_cases hlt : k < 6
    · have CBt := hide (fun W => l11Bit_walk k hlt W)
      have sl := sl_ltr k hlt
      have lz : (ltr k).size ≤ 1 := Nat.le_refl _
      have CH := hide (fun W => l11Has_walk x0 x1 x2 x3 x4 x5 x6 x7 x8 x9 (.slice a0 n0 c0) (.slice a1 n1 c1) (bitL k) W)
      generalize bitL k = bl at *
      generalize ltr k = lt at *
      generalize shF x4 o2 k = o3 at *
      have hk6 : (k : Int) < 6 := by omega
      cases hf : flagB x4 bl with
      | false =>
        rw [hf] at HE CH
        have k0 := HK2.out.2.cell 0 _ rfl; have k1 := HK2.out.2.cell 1 _ rfl; have k2 := HK2.out.2.cell 2 _ rfl; have k3 := HK2.out.2.cell 3 _ rfl; have k4 := HK2.out.2.cell 4 _ rfl; have k5 := HK2.out.2.cell 5 _ rfl; have k6 := HK2.out.2.cell 6 _ rfl; have k7 := HK2.out.2.cell 7 _ rfl; have k8 := HK2.out.2.cell 8 _ rfl; have k9 := HK2.out.2.cell 9 _ rfl; have k10 := HK2.out.2.cell 10 _ rfl; have k11 := HK2.out.2.cell 11 _ rfl
        go_upto_region 9 with fail
        clear k0 k1 k2 k3 k4 k5 k6 k7 k8 k9 k10 k11
        have hK := ShW.next HK2.out ((Below.refl _ _).drew)
        have hKX : ∀ wq, ShW w #[.int .i64 x0, .int .i64 x1, .int .i64 x2, .int .i64 x3, .int .i64 x4, .int .i64 x5, .int .i64 x6, .bool x7, .int .i64 x8, .bool x9, .slice a0 n0 c0, .slice a1 n1 c1] wq → wq.cell? ⟨w.heap.size, 0, none⟩ = some (.int .i64 x0) ∧ wq.cell? ⟨w.heap.size, 1, none⟩ = some (.int .i64 x1) ∧ wq.cell? ⟨w.heap.size, 2, none⟩ = some (.int .i64 x2) ∧ wq.cell? ⟨w.heap.size, 3, none⟩ = some (.int .i64 x3) ∧ wq.cell? ⟨w.heap.size, 4, none⟩ = some (.int .i64 x4) ∧ wq.cell? ⟨w.heap.size, 5, none⟩ = some (.int .i64 x5) ∧ wq.cell? ⟨w.heap.size, 6, none⟩ = some (.int .i64 x6) ∧ wq.cell? ⟨w.heap.size, 7, none⟩ = some (.bool x7) ∧ wq.cell? ⟨w.heap.size, 8, none⟩ = some (.int .i64 x8) ∧ wq.cell? ⟨w.heap.size, 9, none⟩ = some (.bool x9) ∧ wq.cell? ⟨w.heap.size, 10, none⟩ = some (.slice a0 n0 c0) ∧ wq.cell? ⟨w.heap.size, 11, none⟩ = some (.slice a1 n1 c1) := fun wq hs => ⟨hs.2.cell 0 _ rfl, hs.2.cell 1 _ rfl, hs.2.cell 2 _ rfl, hs.2.cell 3 _ rfl, hs.2.cell 4 _ rfl, hs.2.cell 5 _ rfl, hs.2.cell 6 _ rfl, hs.2.cell 7 _ rfl, hs.2.cell 8 _ rfl, hs.2.cell 9 _ rfl, hs.2.cell 10 _ rfl, hs.2.cell 11 _ rfl⟩
        clear HK2
        refine wp_region_lex (fun w' => ShW w #[.int .i64 x0, .int .i64 x1, .int .i64 x2, .int .i64 x3, .int .i64 x4, .int .i64 x5, .int .i64 x6, .bool x7, .int .i64 x8, .bool x9, .slice a0 n0 c0, .slice a1 n1 c1] w') ((0, true) :: (1, true) :: (2, false) :: (3, false) :: []) (by kernel_rfl) (by kernel_rfl) (by kernel_rfl) rfl hK ?_
        repeat (first
          | (refine wpLex_take ?_ rfl (by rfl) (fun _ _ _ h => h) ?_ ?_; rotate_left; (intro wq hSw; (try dsimp only at hSw); obtain ⟨q0, q1, q2, q3, q4, q5, q6, q7, q8, q9, q10, q11⟩ := hKX _ hSw; first | (go_simp; done) | (go_simp; with_reducible rfl)); simp only [Act.put, List.setIfInBounds_toArray, List.set_cons_zero, List.set_cons_succ])
          | (refine wpLex_act rfl (by rfl) ?_; intro KK hKK; go_simp; (first
              | (go_at_call 29; refine (CBt.out _).mono ?_; clear CBt; rintro e w' ⟨rfl, hbx⟩; have hK := ShW.next hK hbx; clear hbx)
              | (go_at_call 28; refine (CH.out _).mono ?_; clear CH; rintro e w' ⟨rfl, hbx⟩; have hK := ShW.next hK hbx; clear hbx)); (try go_wp2_with fail); refine hKK.out _ _ hK ?_; clear hKK KK; try simp only [Act.put, List.setIfInBounds_toArray, List.set_cons_zero, List.set_cons_succ]))
        refine wpLex_nil ?_
        clear hKX
        go_wp2_with fail
        exact ⟨⟨k + 1, by omega, by rw [HE.out]; rfl, by go_num, hide hK⟩, by simp [intOf]; omega⟩
      | true =>
        rw [hf] at HE CH
        have k0 := HK2.out.2.cell 0 _ rfl; have k1 := HK2.out.2.cell 1 _ rfl; have k2 := HK2.out.2.cell 2 _ rfl; have k3 := HK2.out.2.cell 3 _ rfl; have k4 := HK2.out.2.cell 4 _ rfl; have k5 := HK2.out.2.cell 5 _ rfl; have k6 := HK2.out.2.cell 6 _ rfl; have k7 := HK2.out.2.cell 7 _ rfl; have k8 := HK2.out.2.cell 8 _ rfl; have k9 := HK2.out.2.cell 9 _ rfl; have k10 := HK2.out.2.cell 10 _ rfl; have k11 := HK2.out.2.cell 11 _ rfl
        go_upto_region 9 with fail
        clear k0 k1 k2 k3 k4 k5 k6 k7 k8 k9 k10 k11
        have hK := ShW.next HK2.out ((Below.refl _ _).drew)
        have hKX : ∀ wq, ShW w #[.int .i64 x0, .int .i64 x1, .int .i64 x2, .int .i64 x3, .int .i64 x4, .int .i64 x5, .int .i64 x6, .bool x7, .int .i64 x8, .bool x9, .slice a0 n0 c0, .slice a1 n1 c1] wq → wq.cell? ⟨w.heap.size, 0, none⟩ = some (.int .i64 x0) ∧ wq.cell? ⟨w.heap.size, 1, none⟩ = some (.int .i64 x1) ∧ wq.cell? ⟨w.heap.size, 2, none⟩ = some (.int .i64 x2) ∧ wq.cell? ⟨w.heap.size, 3, none⟩ = some (.int .i64 x3) ∧ wq.cell? ⟨w.heap.size, 4, none⟩ = some (.int .i64 x4) ∧ wq.cell? ⟨w.heap.size, 5, none⟩ = some (.int .i64 x5) ∧ wq.cell? ⟨w.heap.size, 6, none⟩ = some (.int .i64 x6) ∧ wq.cell? ⟨w.heap.size, 7, none⟩ = some (.bool x7) ∧ wq.cell? ⟨w.heap.size, 8, none⟩ = some (.int .i64 x8) ∧ wq.cell? ⟨w.heap.size, 9, none⟩ = some (.bool x9) ∧ wq.cell? ⟨w.heap.size, 10, none⟩ = some (.slice a0 n0 c0) ∧ wq.cell? ⟨w.heap.size, 11, none⟩ = some (.slice a1 n1 c1) := fun wq hs => ⟨hs.2.cell 0 _ rfl, hs.2.cell 1 _ rfl, hs.2.cell 2 _ rfl, hs.2.cell 3 _ rfl, hs.2.cell 4 _ rfl, hs.2.cell 5 _ rfl, hs.2.cell 6 _ rfl, hs.2.cell 7 _ rfl, hs.2.cell 8 _ rfl, hs.2.cell 9 _ rfl, hs.2.cell 10 _ rfl, hs.2.cell 11 _ rfl⟩
        clear HK2
        refine wp_region_lex (fun w' => ShW w #[.int .i64 x0, .int .i64 x1, .int .i64 x2, .int .i64 x3, .int .i64 x4, .int .i64 x5, .int .i64 x6, .bool x7, .int .i64 x8, .bool x9, .slice a0 n0 c0, .slice a1 n1 c1] w') ((0, true) :: (1, true) :: (2, false) :: (3, false) :: []) (by kernel_rfl) (by kernel_rfl) (by kernel_rfl) rfl hK ?_
        repeat (first
          | (refine wpLex_take ?_ rfl (by rfl) (fun _ _ _ h => h) ?_ ?_; rotate_left; (intro wq hSw; (try dsimp only at hSw); obtain ⟨q0, q1, q2, q3, q4, q5, q6, q7, q8, q9, q10, q11⟩ := hKX _ hSw; first | (go_simp; done) | (go_simp; with_reducible rfl)); simp only [Act.put, List.setIfInBounds_toArray, List.set_cons_zero, List.set_cons_succ])
          | (refine wpLex_act rfl (by rfl) ?_; intro KK hKK; go_simp; (first
              | (go_at_call 29; refine (CBt.out _).mono ?_; clear CBt; rintro e w' ⟨rfl, hbx⟩; have hK := ShW.next hK hbx; clear hbx)
              | (go_at_call 28; refine (CH.out _).mono ?_; clear CH; rintro e w' ⟨rfl, hbx⟩; have hK := ShW.next hK hbx; clear hbx)); (try go_wp2_with fail); refine hKK.out _ _ hK ?_; clear hKK KK; try simp only [Act.put, List.setIfInBounds_toArray, List.set_cons_zero, List.set_cons_succ]))
        refine wpLex_nil ?_
        clear hKX
        have HKK2 := hide hK
        clear hK
        go_wp2_with fail
        exact ⟨⟨k + 1, by omega, by rw [HE.out]; rfl, by go_num, HKK2⟩, by simp [intOf]; omega⟩
    · obtain rfl : k = 6 := by omega
      clear HE hlt
      have HKa := HK2
      clear HK2
      generalize hF9 : shF x4 o2 6 = o4 at *
      have HF9 := hide hF9
      clear hF9
      have ho4 : o4.size ≤ 29 := by omega
      go_upto_region 11 with fail
      have hK := ShW.next HKa.out ((Below.refl _ _).drew)
      have CA := hide (fun W => decT_walk x2 (by omega) (by omega) W)
      have CB := hide (fun W => decT_walk x3 (by omega) (by omega) W)
      have CC := hide (fun W => decT_walk x5 (by omega) (by omega) W)
      have s2 := decT_size x2 (by omega)
      have s3 := decT_size x3 (by omega)
      have s5 := decT_size x5 (by omega)
      have e1 : Hid ((((((o4 ++ (⟨#[32]⟩ : ByteArray)) ++ decT x2) ++ (⟨#[32]⟩ : ByteArray)) ++ decT x3) ++ (⟨#[32]⟩ : ByteArray)) ++ decT x5 = shC x2 x3 x5 o4) := hide rfl
      have hzC := shC_size x2 x3 x5 o4 (by omega) (by omega) (by omega)
      generalize decT x2 = t2 at *
      generalize decT x3 = t3 at *
      generalize decT x5 = t5 at *
      have hKX : ∀ wq, ShW w #[.int .i64 x0, .int .i64 x1, .int .i64 x2, .int .i64 x3, .int .i64 x4, .int .i64 x5, .int .i64 x6, .bool x7, .int .i64 x8, .bool x9, .slice a0 n0 c0, .slice a1 n1 c1] wq → wq.cell? ⟨w.heap.size, 2, none⟩ = some (.int .i64 x2) ∧ wq.cell? ⟨w.heap.size, 3, none⟩ = some (.int .i64 x3) ∧ wq.cell? ⟨w.heap.size, 5, none⟩ = some (.int .i64 x5) := fun wq hs => ⟨hs.2.cell 2 _ rfl, hs.2.cell 3 _ rfl, hs.2.cell 5 _ rfl⟩
      clear HKa
      refine wp_region_lex (fun w' => ShW w #[.int .i64 x0, .int .i64 x1, .int .i64 x2, .int .i64 x3, .int .i64 x4, .int .i64 x5, .int .i64 x6, .bool x7, .int .i64 x8, .bool x9, .slice a0 n0 c0, .slice a1 n1 c1] w') ((0, true) :: (1, true) :: (2, true) :: (3, true) :: (7, true) :: (8, true) :: (12, true) :: (13, true) :: (4, false) :: (5, true) :: (6, true) :: (9, false) :: (10, true) :: (11, true) :: (14, false) :: (15, true) :: (16, true) :: []) (by kernel_rfl) (by kernel_rfl) (by kernel_rfl) rfl hK ?_
      repeat (first
        | (refine wpLex_take ?_ rfl (by rfl) (fun _ _ _ h => h) ?_ ?_; rotate_left; (intro wq hSw; (try dsimp only at hSw); (try have hkx := hKX _ hSw); first | (go_simp; done) | (go_simp; with_reducible rfl) | (go_simp; rw [if_neg (by (try simp only [ByteArray.size_append]); omega)])); simp only [Act.put, List.setIfInBounds_toArray, List.set_cons_zero, List.set_cons_succ])
        | (refine wpLex_act rfl (by rfl) ?_; intro KK hKK; go_simp; (first
            | (go_at_call 27; refine (CA.out _).mono ?_; clear CA; rintro e w' ⟨rfl, hbx⟩; have hK := ShW.next hK hbx; clear hbx)
            | (go_at_call 27; refine (CB.out _).mono ?_; clear CB; rintro e w' ⟨rfl, hbx⟩; have hK := ShW.next hK hbx; clear hbx)
            | (go_at_call 27; refine (CC.out _).mono ?_; clear CC; rintro e w' ⟨rfl, hbx⟩; have hK := ShW.next hK hbx; clear hbx)); (try go_wp2_with fail); refine hKK.out _ _ hK ?_; clear hKK KK; try simp only [Act.put, List.setIfInBounds_toArray, List.set_cons_zero, List.set_cons_succ]))
      refine wpLex_nil ?_
      rw [e1.out]
      clear e1 s2 s3 s5 hKX
      generalize hC9 : shC x2 x3 x5 o4 = o5 at *
      have HC9 := hide hC9
      clear hC9
      have HKb := hide hK
      clear hK
      have k6 := HKb.out.2.cell 6 _ rfl
      go_upto_if 62 with fail
      go_cut [4] (fun s4 wx => s4 = .string (shM x6 o5) ∧ Hid (ShW w #[.int .i64 x0, .int .i64 x1, .int .i64 x2, .int .i64 x3, .int .i64 x4, .int .i64 x5, .int .i64 x6, .bool x7, .int .i64 x8, .bool x9, .slice a0 n0 c0, .slice a1 n1 c1] wx))
      case first =>
        by_cases h6 : x6 = 0
        · subst h6
          clear k6
          go_wp2_with fail
          go_meet
          exact ⟨by unfold shM; rw [if_pos rfl], HKb⟩
        · have hb6 : (x6 != 0) = true := by simpa using h6
          have H6 := hide h6
          have CA := hide (fun W => decT_walk x6 (by omega) (by omega) W)
          have s6 := decT_size x6 (by omega)
          have e6 : Hid (shM x6 o5 = (o5 ++ (⟨#[32, 109, 115, 115, 32]⟩ : ByteArray)) ++ decT x6) := hide (by unfold shM; rw [if_neg H6.out])
          generalize decT x6 = t6 at *
          clear h6
          go_wp2_with fail
          refine (CA.out _).mono ?_
          rintro e w6 ⟨rfl, hb6⟩
          have HKm := hide (HKb.out.next hb6)
          clear hb6 CA HKb k6
          go_wp2_with fail
          go_meet
          exact ⟨by rw [e6.out], HKm⟩
      case rest =>
      clear HKb k6
      obtain ⟨hs4, HKc⟩ := hcut
      subst hs4
      have hzM := shM_size x6 o5 (by omega)
      generalize hX9 : shM x6 o5 = o6 at *
      have HXo6 := hide hX9
      clear hX9
      have k7 := HKc.out.2.cell 7 _ rfl; have k8 := HKc.out.2.cell 8 _ rfl
      go_upto_if 70 with fail
      go_cut [4] (fun s4 wx => s4 = .string (shS x7 x8 o6) ∧ Hid (ShW w #[.int .i64 x0, .int .i64 x1, .int .i64 x2, .int .i64 x3, .int .i64 x4, .int .i64 x5, .int .i64 x6, .bool x7, .int .i64 x8, .bool x9, .slice a0 n0 c0, .slice a1 n1 c1] wx))
      case first =>
        rcases (show x7 = false ∨ x7 = true by cases x7 <;> simp) with h7 | h7
        · subst h7
          clear k7 k8
          go_wp2_with fail
          go_meet
          exact ⟨by unfold shS; rfl, HKc⟩
        · subst h7
          have CA := hide (fun W => decT_walk x8 (by omega) (by omega) W)
          have s6 := decT_size x8 (by omega)
          have e6 : Hid (shS true x8 o6 = (o6 ++ (⟨#[32, 115, 99, 97, 108, 101, 32]⟩ : ByteArray)) ++ decT x8) := hide rfl
          generalize decT x8 = t6 at *
          go_wp2_with fail
          refine (CA.out _).mono ?_
          rintro e w6 ⟨rfl, hb6⟩
          have HKm := hide (HKc.out.next hb6)
          clear hb6 CA HKc k7 k8
          go_wp2_with fail
          go_meet
          exact ⟨by rw [e6.out], HKm⟩
      case rest =>
      clear HKc k7 k8
      obtain ⟨hs4, HKd⟩ := hcut
      subst hs4
      have hzS := shS_size x7 x8 o6 (by omega)
      generalize hX9 : shS x7 x8 o6 = o7 at *
      have HXo7 := hide hX9
      clear hX9
      have k9 := HKd.out.2.cell 9 _ rfl
      go_upto_if 78 with fail
      go_cut [4] (fun s4 wx => s4 = .string (shO x9 o7) ∧ Hid (ShW w #[.int .i64 x0, .int .i64 x1, .int .i64 x2, .int .i64 x3, .int .i64 x4, .int .i64 x5, .int .i64 x6, .bool x7, .int .i64 x8, .bool x9, .slice a0 n0 c0, .slice a1 n1 c1] wx))
      case first =>
        rcases (show x9 = false ∨ x9 = true by cases x9 <;> simp) with h7 | h7
        · subst h7
          clear k9
          go_wp2_with fail
          go_meet
          exact ⟨by unfold shO; rfl, HKd⟩
        · subst h7
          clear k9
          go_wp2_with fail
          go_meet
          exact ⟨by unfold shO; rfl, HKd⟩
      case rest =>
      clear HKd k9
      obtain ⟨hs4, HKe⟩ := hcut
      subst hs4
      have hzO := shO_size x9 o7
      generalize hX9 : shO x9 o7 = o8 at *
      have HXo8 := hide hX9
      clear hX9
      have ho8 : o8.size ≤ 101 := by omega
      clear hzA hzB hzF hzC hzM hzS hzO
      go_wp2_with fail
      go_loopw [4, 6] (fun s t wx => ∃ k : Nat, k ≤ n0 ∧ s = .string (shK z o8 k) ∧ t = .int .i64 (k : Int) ∧ Hid (ShW w #[.int .i64 x0, .int .i64 x1, .int .i64 x2, .int .i64 x3, .int .i64 x4, .int .i64 x5, .int .i64 x6, .bool x7, .int .i64 x8, .bool x9, .slice a0 n0 c0, .slice a1 n1 c1] wx)) (fun _ t _ => n0 - (intOf t).toNat)
      case atStart => exact ⟨0, Nat.zero_le _, rfl, rfl, HKe⟩
      case round =>
        obtain ⟨k, hk, rfl, rfl, HKf⟩ := hrel
        clear HKe
        have hzK := shK_size z o8 (fun q => (HZB.out q).2) k
        by_cases hlt : k < n0
        · obtain ⟨bb, off, ea, hbs, _⟩ := HA.out (k * 2) (by rw [HZ.out]; omega)
          subst ea
          have c0 : ∀ wq, Below w.heap.size w wq → wq.cell? ⟨bb, off + k * 2, none⟩ = some (.int .i64 (z.getD (k * 2) 0)) := fun wq hbq => by
            obtain ⟨b', o', e, _, c⟩ := HA.out (k * 2) (by rw [HZ.out]; omega)
            cases e
            rw [hbq.cell (p := ⟨bb, off + k * 2, none⟩) hbs]; exact c
          have c1 : ∀ wq, Below w.heap.size w wq → wq.cell? ⟨bb, off + k * 2 + 1, none⟩ = some (.int .i64 (z.getD (k * 2 + 1) 0)) := fun wq hbq => by
            obtain ⟨b', o', e, _, c⟩ := HA.out (k * 2 + 1) (by rw [HZ.out]; omega)
            cases e
            rw [Nat.add_assoc, hbq.cell (p := ⟨bb, off + (k * 2 + 1), none⟩) hbs]; exact c
          have HE : Hid ((((shK z o8 k ++ (⟨#[32, 115, 97, 99, 107, 32]⟩ : ByteArray)) ++ decT (z.getD (k * 2) 0)) ++ (⟨#[45]⟩ : ByteArray)) ++ decT (z.getD (k * 2 + 1) 0) = shK z o8 (k + 1)) := hide rfl
          have hz0 := HZB.out (k * 2)
          have hz1 := HZB.out (k * 2 + 1)
          have HC0 := hide c0
          have HC1 := hide c1
          clear c0 c1
          generalize z.getD (k * 2) 0 = f0 at *
          generalize z.getD (k * 2 + 1) 0 = f1 at *
          have CA := hide (fun W => decT_walk f0 (by omega) (by omega) W)
          have CB := hide (fun W => decT_walk f1 (by omega) (by omega) W)
          have s0 := decT_size f0 (by omega)
          have s1 := decT_size f1 (by omega)
          generalize decT f0 = t0 at *
          generalize decT f1 = t1 at *
          generalize shK z o8 k = ok at *
          have hk2 : (k : Int) < (n0 : Int) := by omega
          have k10 := HKf.out.2.cell 10 _ rfl
          go_upto_region 21 with fail
          clear k10
          have hK := ShW.next HKf.out ((Below.refl _ _).drew)
          have hKX : ∀ wq, ShW w #[.int .i64 x0, .int .i64 x1, .int .i64 x2, .int .i64 x3, .int .i64 x4, .int .i64 x5, .int .i64 x6, .bool x7, .int .i64 x8, .bool x9, .slice (some ⟨bb, off, none⟩) n0 c0, .slice a1 n1 c1] wq → wq.cell? ⟨w.heap.size, 10, none⟩ = some (.slice (some ⟨bb, off, none⟩) n0 c0) ∧ wq.cell? ⟨bb, off + k * 2, none⟩ = some (.int .i64 f0) ∧ wq.cell? ⟨bb, off + k * 2 + 1, none⟩ = some (.int .i64 f1) := fun wq hs => ⟨hs.2.cell 10 _ rfl, HC0.out wq hs.1, HC1.out wq hs.1⟩
          clear HKf
          refine wp_region_lex (fun w' => ShW w #[.int .i64 x0, .int .i64 x1, .int .i64 x2, .int .i64 x3, .int .i64 x4, .int .i64 x5, .int .i64 x6, .bool x7, .int .i64 x8, .bool x9, .slice (some ⟨bb, off, none⟩) n0 c0, .slice a1 n1 c1] w') ((0, true) :: (1, true) :: (2, true) :: (3, true) :: (4, true) :: (5, true) :: (6, true) :: (7, true) :: (11, true) :: (12, true) :: (13, true) :: (14, true) :: (15, true) :: (16, true) :: (8, false) :: (9, true) :: (10, true) :: (17, false) :: (18, true) :: (19, true) :: []) (by kernel_rfl) (by kernel_rfl) (by kernel_rfl) rfl hK ?_
          repeat (first
            | (refine wpLex_take ?_ rfl (by rfl) (fun _ _ _ h => h) ?_ ?_; rotate_left; (intro wq hSw; (try dsimp only at hSw); (try have hkx := hKX _ hSw); first | (go_simp; done) | (go_simp; with_reducible rfl) | (go_simp; rw [if_neg (by (try simp only [ByteArray.size_append]); omega)])); simp only [Act.put, List.setIfInBounds_toArray, List.set_cons_zero, List.set_cons_succ])
            | (refine wpLex_act rfl (by rfl) ?_; intro KK hKK; go_simp; (first
                | (go_at_call 27; refine (CA.out _).mono ?_; clear CA; rintro e w' ⟨rfl, hbx⟩; have hK := ShW.next hK hbx; clear hbx)
                | (go_at_call 27; refine (CB.out _).mono ?_; clear CB; rintro e w' ⟨rfl, hbx⟩; have hK := ShW.next hK hbx; clear hbx)); (try go_wp2_with fail); refine hKK.out _ _ hK ?_; clear hKK KK; try simp only [Act.put, List.setIfInBounds_toArray, List.set_cons_zero, List.set_cons_succ]))
          refine wpLex_nil ?_
          rw [HE.out]
          have HKg := hide hK
          clear hK hKX
          go_wp2_with fail
          exact ⟨⟨k + 1, by omega, rfl, by go_num, HKg⟩, by simp [intOf]; omega⟩
        · obtain rfl : k = n0 := by omega
          generalize hK9 : shK z o8 k = o9 at *
          have HXo9 := hide hK9
          clear hK9
          have HT : Hid (shT x0 x1 x2 x3 x4 x5 x6 x7 x8 x9 k z zs = shD zs o9) := hide (by unfold shT; rw [HA9.out, HB9.out, HF9.out, HC9.out, HXo6.out, HXo7.out, HXo8.out, HXo9.out])
          have k10 := HKf.out.2.cell 10 _ rfl
          have k11 := HKf.out.2.cell 11 _ rfl
          by_cases h0 : n1 = 0
          · have HE : Hid (shD zs o9 = o9) := hide (by unfold shD; rw [if_pos (List.length_eq_zero_iff.1 (by rw [HN.out]; exact h0))])
            subst h0
            go_wp2_with fail
            go_ret2
            exact ⟨by rw [HT.out, HE.out]; rfl, HKf.out.1⟩
          · have HE : Hid (shD zs o9 = (o9 ++ (⟨#[32, 100, 97, 116, 97, 32]⟩ : ByteArray)) ++ strB (hexL zs)) := hide (by unfold shD; rw [if_neg (fun e => h0 (by rw [← HN.out, e]; rfl))])
            have hn0 : (0 : Int) < (n1 : Int) := by omega
            have CX := hide (fun W (hb : Below w.heap.size w W) => l11Hex_walk a1 n1 c1 zs W HN.out (HB.out.below hb (Nat.le_refl _)) (by omega))
            have sx : (strB (hexL zs)).size ≤ 8000 := by rw [strB_size, hexL_len, HN.out]; omega
            generalize strB (hexL zs) = tx at *
            have ho9 : o9.size ≤ 200 := by omega
            go_wp2_with fail
            refine (CX.out _ HKf.out.1).mono ?_
            rintro e w9 ⟨rfl, hb9⟩
            have HKg := hide (HKf.out.next hb9)
            clear hb9 CX HKf k10 k11
            go_wp2_with fail
            go_ret2
            exact ⟨by rw [HT.out, HE.out]; rfl, HKg.out.1⟩
end Go.Proofs.YtcnfnimgpiaamaaDoor
