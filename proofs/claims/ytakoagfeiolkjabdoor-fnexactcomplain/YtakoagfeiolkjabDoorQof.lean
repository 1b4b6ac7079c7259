/-
Contracts of functions of this seat.
-/
import Derived.Test.YtakoagfeiolkjabDoorRows
import Derived.WalkKit
import Derived.ProofKit
import Derived.OpenShut
import Derived.Test.YtakoagfeiolkjabDoorIei
import Derived.Test.YtakoagfeiolkjabDoorIph
namespace Go.Proofs.YtakoagfeiolkjabDoor
open Go.ChangeShapes Go.WideShapes Go.ChangeAt Go.RowKit
set_option linter.unusedVariables false
set_option maxRecDepth 100000
/-- The packet's box and the cursor's, laid. -/
abbrev encPW (w : World) (x0 x1 : Int) (x2 x3 : Bool) (x4 x5 x6 x7 x8 : Int) (v0 v1 : Value) : World := (w.alloc (.cells #[.int .i64 x0, .int .i64 x1, .bool x2, .bool x3, .int .i64 x4, .int .i64 x5, .int .i64 x6, .int .i64 x7, .int .i64 x8, v0, v1] 47)).alloc (.cells #[.slice none 0 0, .int .i64 0, .nilIface] 69)
theorem encPW_facts (w : World) (x0 x1 : Int) (x2 x3 : Bool) (x4 x5 x6 x7 x8 : Int) (v0 v1 : Value) : BoxPacket w (encPW w x0 x1 x2 x3 x4 x5 x6 x7 x8 v0 v1) x0 x1 x2 x3 x4 x5 x6 x7 x8 v0 v1 ∧ Cur (encPW w x0 x1 x2 x3 x4 x5 x6 x7 x8 v0 v1) (w.heap.size + 1) (.slice none 0 0) 0 .nilIface := by
  have h1 := BoxPacket.start w x0 x1 x2 x3 x4 x5 x6 x7 x8 v0 v1 47
  have hs := World.size_alloc w (.cells #[.int .i64 x0, .int .i64 x1, .bool x2, .bool x3, .int .i64 x4, .int .i64 x5, .int .i64 x6, .int .i64 x7, .int .i64 x8, v0, v1] 47)
  refine ⟨h1.next ((Below.refl _ _).alloc (Nat.le_refl _) _), ?_⟩
  unfold Cur
  rw [← hs]
  exact heap_alloc_new _ _

theorem arr_take {w : World} {a : Option Addr} {zs : List Int} (h : Arr w a zs) (k : Nat) : Arr w a (zs.take k) := by
  refine ⟨fun z hz => h.1 z (List.mem_of_mem_take hz), fun j hj => ?_⟩
  have hj2 : j < zs.length := by rw [List.length_take] at hj; omega
  obtain ⟨b, off, e, hlt, hc⟩ := h.2 j hj2
  refine ⟨b, off, e, hlt, ?_⟩
  rw [hc, List.getD_eq_getElem?_getD, List.getD_eq_getElem?_getD, List.getElem?_take_of_lt (by rw [List.length_take] at hj; omega)]
set_option maxHeartbeats 4000000 in
theorem quoteOf_all (x0 x1 : Int) (x2 x3 : Bool) (x4 x5 x6 x7 x8 : Int) (a0 : Option Addr) (n0 c0 : Nat) (a1 : Option Addr) (n1 c1 : Nat) (z0 z1 : List Int) (w : World) (h0n : z0.length = n0) (h0a : Arr w a0 z0) (h1n : z1.length = n1) (h1a : Arr w a1 z1) (m0 : n0 ≤ 1000) (m1 : n1 ≤ 1048576) (q1 : n1 ≤ c1) (hK : n1 ≤ 8) (hK2 : (n1 : Int) ≤ 8) (N : Nat) (hN : 20 + (n0 : Int) + (n1 : Int) = (N : Int)) (L : List Int) (hL : splice (hdB (hdF n0) x0 (N : Int) x1 (hdL x2 x3 x4) x5 x6 x7 x8 z0) 10 (putL (csum (hdB (hdF n0) x0 (N : Int) x1 (hdL x2 x3 x4) x5 x6 x7 x8 z0)) 2) ++ z1.take n1 = L) :
    Calls Tryd.prog 73 #[.agg #[.int .i64 x0, .int .i64 x1, .bool x2, .bool x3, .int .i64 x4, .int .i64 x5, .int .i64 x6, .int .i64 x7, .int .i64 x8, .slice a0 n0 c0, .slice a1 n1 c1]] w fun e w' => ∃ v : Value, e = .returned v ∧ OwnB w' w.heap.size v L ∧ Below w.heap.size w w' := by
  have HF := hide (encPW_facts w x0 x1 x2 x3 x4 x5 x6 x7 x8 (.slice a0 n0 c0) (.slice a1 n1 c1))
  have CP := hide (fun W => headLength_walk x0 x1 x2 x3 x4 x5 x6 x7 x8 a0 n0 c0 a1 n1 c1 W (by omega))
  have CH := hide (fun W => by have h' := headOf_any x0 x1 x2 x3 x4 x5 x6 x7 x8 a0 n0 c0 a1 n1 c1 W (by omega) m1; rw [hN] at h'; exact h')
  have HA0 := hide h0a
  have HA1 : Hid (Arr w a1 (z1.take n1)) := hide (arr_take h1a n1)
  have HZ0 := hide h0n
  have HZ1 : Hid ((z1.take n1).length = n1) := hide (by rw [List.length_take]; omega)
  have HLq := hide hL
  have hsum : IntKind.i64.wrap (20 + (n0 : Int) + (n1 : Int)) = ((20 + n0 + n1 : Nat) : Int) := by rw [IntKind.wrap_i64]; omega
  have hz1 : (z1.take n1).length ≤ 1048576 := by rw [HZ1.out]; omega
  clear h0a h1a h0n h1n hN hL
  generalize z1.take n1 = zq at *
  obtain ⟨⟨_, _, k0, k1, k2, k3, k4, k5, k6, k7, k8, k9, k10⟩, hc0⟩ := HF.out
  clear hc0
  go_enter Tryd.func73, Tryd.ntmps73
  go_wp2_with fail
  generalize hW : encPW w x0 x1 x2 x3 x4 x5 x6 x7 x8 (.slice a0 n0 c0) (.slice a1 n1 c1) = W at *
  unfold encPW at hW
  rw [hW]
  clear hW
  refine (CP.out _).mono ?_
  rintro e w3 ⟨rfl, hb3⟩
  have HB3 := hide (HF.out.1.next hb3)
  have HC3 := hide (HF.out.2.below hb3 HF.out.2.lt)
  clear k0 k1 k2 k3 k4 k5 k6 k7 k8 k9 k10 HF hb3 CP
  have CM := hide (makeRoom_ok (w.heap.size + 1) 0 (.slice none 0 0) (20 + n0 + n1) w3 HC3.out (by omega))
  go_wp2_with fail
  refine CM.out.mono ?_
  rintro e w4 ⟨rfl, hc4, hr4, hg4⟩
  have hsz0 := HC3.out.lt
  have HB4 := hide (HB3.out.keep (grown_under hg4 (Nat.le_refl _) (by omega)) (by omega))
  have HC4 := hide hc4
  have HR4 := hide hr4
  clear CM hc4 hr4 hg4 HB3 HC3
  generalize w3.heap.size = G at *
  obtain ⟨_, _, k0, k1, k2, k3, k4, k5, k6, k7, k8, k9, k10⟩ := HB4.out
  go_wp2_with fail
  refine (CH.out _).mono ?_
  rintro e w5 ⟨H, rfl, hH, hb5, hh5⟩
  have HB5 := hide (HB4.out.next hb5)
  have HC5 := hide (HC4.out.below hb5 HC4.out.lt)
  have HR5 := hide (HR4.out.below hb5 HR4.out.lt)
  have hGl := HR4.out.lt
  have HH5 : Hid (HdC w5 H _ _ _ _ _ _ _ _ _ _) := hide hh5
  clear k0 k1 k2 k3 k4 k5 k6 k7 k8 k9 k10 HB4 HC4 HR4 hb5 hh5 CH
  have HAG0 : Hid (∀ j, j < z0.length → ∃ b off, a0 = some ⟨b, off, none⟩ ∧ b < w.heap.size + 1) := hide (fun j hj => by obtain ⟨b, off, e, hlt, _⟩ := HA0.out.2 j hj; exact ⟨b, off, e, by omega⟩)
  have HAG1 : Hid (∀ j, j < zq.length → ∃ b off, a1 = some ⟨b, off, none⟩ ∧ b < w.heap.size + 1) := hide (fun j hj => by obtain ⟨b, off, e, hlt, _⟩ := HA1.out.2 j hj; exact ⟨b, off, e, by omega⟩)
  have CU := hide (putHead_ok (w.heap.size + 1) G H (20 + n0 + n1) n0 c0 a0 _ _ _ _ _ _ _ _ _ z0 w5 HC5.out HR5.out HH5.out (by omega) (by omega) (by omega) (by omega) (by omega) HZ0.out (HA0.out.below HB5.out.1 (Nat.le_refl _)) HAG0.out)
  go_wp2_with fail
  refine CU.out.mono ?_
  rintro e w6 ⟨rfl, hc6, hr6, ho6⟩
  have hb6 : Below (w.heap.size + 1) w5 w6 := ho6.below (by intro x hx; simp at hx; omega) (by have := HC5.out.lt; omega)
  have HB6 := hide (HB5.out.keep hb6 (by omega)).1
  have HC6 := hide hc6
  have HLN : Hid (20 + n0 + n1 - 20 - n0 = n1) := hide (by omega)
  rw [HLN.out] at hr6
  have HL : Hid ((splice (hdB (hdF n0) x0 (N : Int) x1 (hdL x2 x3 x4) x5 x6 x7 x8 z0) 10 (putL (csum (hdB (hdF n0) x0 (N : Int) x1 (hdL x2 x3 x4) x5 x6 x7 x8 z0)) 2)).length = 20 + n0) := hide (by rw [length_splice _ _ _ (by rw [putL_len, hdB_len]; omega), hdB_len, HZ0.out])
  have HSP : Hid (∀ ys : List Int, splice (hdB (hdF n0) x0 (N : Int) x1 (hdL x2 x3 x4) x5 x6 x7 x8 z0 ++ ys) 10 (putL (csum (hdB (hdF n0) x0 (N : Int) x1 (hdL x2 x3 x4) x5 x6 x7 x8 z0)) 2) = splice (hdB (hdF n0) x0 (N : Int) x1 (hdL x2 x3 x4) x5 x6 x7 x8 z0) 10 (putL (csum (hdB (hdF n0) x0 (N : Int) x1 (hdL x2 x3 x4) x5 x6 x7 x8 z0)) 2) ++ ys) := hide (fun ys => splice_left _ _ _ _ (by rw [putL_len, hdB_len]; omega))
  rw [HSP.out] at hr6
  have HBD : Hid (∀ z ∈ splice (hdB (hdF n0) x0 (N : Int) x1 (hdL x2 x3 x4) x5 x6 x7 x8 z0) 10 (putL (csum (hdB (hdF n0) x0 (N : Int) x1 (hdL x2 x3 x4) x5 x6 x7 x8 z0)) 2), 0 ≤ z ∧ z ≤ 255) := hide (splice_bd _ _ _ (hdB_bd _ _ _ _ _ _ _ _ _ _ HA0.out.1) (fun z hz => putL_bd _ _ z hz))
  have HR6 := hide hr6
  clear CU hc6 hr6 ho6 hb6 HB5 HC5 HR5 HH5 HSP
  generalize splice (hdB (hdF n0) x0 (N : Int) x1 (hdL x2 x3 x4) x5 x6 x7 x8 z0) 10 (putL (csum (hdB (hdF n0) x0 (N : Int) x1 (hdL x2 x3 x4) x5 x6 x7 x8 z0)) 2) = D at *
  have CB := hide (putBytes_onl (w.heap.size + 1) G (20 + n0 + n1) (20 + n0) n1 n1 c1 a1 D zq w6 HC6.out HR6.out (by omega) HL.out (by omega) (by omega) (Nat.le_refl _) HZ1.out (HA1.out.below HB6.out (Nat.le_refl _)) HAG1.out)
  go_wp2_with fail
  refine CB.out.mono ?_
  rintro e w7 ⟨rfl, hc7, hr7, ho7⟩
  have hb7 : Below (w.heap.size + 1) w6 w7 := ho7.below (by intro x hx; simp at hx; omega) (by have := HC6.out.lt; omega)
  have HB7 := hide (HB6.out.trans (hb7.mono (by omega)))
  have HC7 := hide hc7
  rw [Nat.sub_self, List.replicate_zero, List.append_nil] at hr7
  have HR7 := hide hr7
  clear CB hc7 hr7 ho7 hb7 HB6 HC6 HR6
  obtain ⟨c0', c1', c2', cf⟩ := HC7.out.cells
  have HLL : Hid ((D ++ zq).length = 20 + n0 + n1) := hide (by rw [List.length_append, HL.out, HZ1.out])
  have HO := HR7.out.own (B := w.heap.size) (by omega) (fun z hz => by rcases List.mem_append.1 hz with hz | hz; exact HBD.out z hz; exact HA1.out.1 z hz) (by rw [HLL.out]; omega)
  rw [HLL.out, HLq.out] at HO
  have HO' := hide HO
  clear HO
  go_wp2_with fail
  go_ret
  exact ⟨_, rfl, HO'.out, HB7.out⟩
set_option maxHeartbeats 4000000 in
theorem quoteOf_cut (x0 x1 : Int) (x2 x3 : Bool) (x4 x5 x6 x7 x8 : Int) (a0 : Option Addr) (n0 c0 : Nat) (a1 : Option Addr) (n1 c1 : Nat) (z0 z1 : List Int) (w : World) (h0n : z0.length = n0) (h0a : Arr w a0 z0) (h1n : z1.length = n1) (h1a : Arr w a1 z1) (m0 : n0 ≤ 1000) (m1 : n1 ≤ 1048576) (q1 : n1 ≤ c1) (hK : 8 < n1) (hK2 : (8 : Int) < (n1 : Int)) (N : Nat) (hN : 20 + (n0 : Int) + (n1 : Int) = (N : Int)) (L : List Int) (hL : splice (hdB (hdF n0) x0 (N : Int) x1 (hdL x2 x3 x4) x5 x6 x7 x8 z0) 10 (putL (csum (hdB (hdF n0) x0 (N : Int) x1 (hdL x2 x3 x4) x5 x6 x7 x8 z0)) 2) ++ z1.take 8 = L) :
    Calls Tryd.prog 73 #[.agg #[.int .i64 x0, .int .i64 x1, .bool x2, .bool x3, .int .i64 x4, .int .i64 x5, .int .i64 x6, .int .i64 x7, .int .i64 x8, .slice a0 n0 c0, .slice a1 n1 c1]] w fun e w' => ∃ v : Value, e = .returned v ∧ OwnB w' w.heap.size v L ∧ Below w.heap.size w w' := by
  have HF := hide (encPW_facts w x0 x1 x2 x3 x4 x5 x6 x7 x8 (.slice a0 n0 c0) (.slice a1 n1 c1))
  have CP := hide (fun W => headLength_walk x0 x1 x2 x3 x4 x5 x6 x7 x8 a0 n0 c0 a1 n1 c1 W (by omega))
  have CH := hide (fun W => by have h' := headOf_any x0 x1 x2 x3 x4 x5 x6 x7 x8 a0 n0 c0 a1 n1 c1 W (by omega) m1; rw [hN] at h'; exact h')
  have HA0 := hide h0a
  have HA1 : Hid (Arr w a1 (z1.take 8)) := hide (arr_take h1a 8)
  have HZ0 := hide h0n
  have HZ1 : Hid ((z1.take 8).length = 8) := hide (by rw [List.length_take]; omega)
  have HLq := hide hL
  have hsum : IntKind.i64.wrap (20 + (n0 : Int) + (8 : Int)) = ((20 + n0 + 8 : Nat) : Int) := by rw [IntKind.wrap_i64]; omega
  have hz1 : (z1.take 8).length ≤ 1048576 := by rw [HZ1.out]; omega
  clear h0a h1a h0n h1n hN hL
  generalize z1.take 8 = zq at *
  obtain ⟨⟨_, _, k0, k1, k2, k3, k4, k5, k6, k7, k8, k9, k10⟩, hc0⟩ := HF.out
  clear hc0
  go_enter Tryd.func73, Tryd.ntmps73
  go_wp2_with fail
  generalize hW : encPW w x0 x1 x2 x3 x4 x5 x6 x7 x8 (.slice a0 n0 c0) (.slice a1 n1 c1) = W at *
  unfold encPW at hW
  rw [hW]
  clear hW
  refine (CP.out _).mono ?_
  rintro e w3 ⟨rfl, hb3⟩
  have HB3 := hide (HF.out.1.next hb3)
  have HC3 := hide (HF.out.2.below hb3 HF.out.2.lt)
  clear k0 k1 k2 k3 k4 k5 k6 k7 k8 k9 k10 HF hb3 CP
  have CM := hide (makeRoom_ok (w.heap.size + 1) 0 (.slice none 0 0) (20 + n0 + 8) w3 HC3.out (by omega))
  go_wp2_with fail
  refine CM.out.mono ?_
  rintro e w4 ⟨rfl, hc4, hr4, hg4⟩
  have hsz0 := HC3.out.lt
  have HB4 := hide (HB3.out.keep (grown_under hg4 (Nat.le_refl _) (by omega)) (by omega))
  have HC4 := hide hc4
  have HR4 := hide hr4
  clear CM hc4 hr4 hg4 HB3 HC3
  generalize w3.heap.size = G at *
  obtain ⟨_, _, k0, k1, k2, k3, k4, k5, k6, k7, k8, k9, k10⟩ := HB4.out
  go_wp2_with fail
  refine (CH.out _).mono ?_
  rintro e w5 ⟨H, rfl, hH, hb5, hh5⟩
  have HB5 := hide (HB4.out.next hb5)
  have HC5 := hide (HC4.out.below hb5 HC4.out.lt)
  have HR5 := hide (HR4.out.below hb5 HR4.out.lt)
  have hGl := HR4.out.lt
  have HH5 : Hid (HdC w5 H _ _ _ _ _ _ _ _ _ _) := hide hh5
  clear k0 k1 k2 k3 k4 k5 k6 k7 k8 k9 k10 HB4 HC4 HR4 hb5 hh5 CH
  have HAG0 : Hid (∀ j, j < z0.length → ∃ b off, a0 = some ⟨b, off, none⟩ ∧ b < w.heap.size + 1) := hide (fun j hj => by obtain ⟨b, off, e, hlt, _⟩ := HA0.out.2 j hj; exact ⟨b, off, e, by omega⟩)
  have HAG1 : Hid (∀ j, j < zq.length → ∃ b off, a1 = some ⟨b, off, none⟩ ∧ b < w.heap.size + 1) := hide (fun j hj => by obtain ⟨b, off, e, hlt, _⟩ := HA1.out.2 j hj; exact ⟨b, off, e, by omega⟩)
  have CU := hide (putHead_ok (w.heap.size + 1) G H (20 + n0 + 8) n0 c0 a0 _ _ _ _ _ _ _ _ _ z0 w5 HC5.out HR5.out HH5.out (by omega) (by omega) (by omega) (by omega) (by omega) HZ0.out (HA0.out.below HB5.out.1 (Nat.le_refl _)) HAG0.out)
  go_wp2_with fail
  refine CU.out.mono ?_
  rintro e w6 ⟨rfl, hc6, hr6, ho6⟩
  have hb6 : Below (w.heap.size + 1) w5 w6 := ho6.below (by intro x hx; simp at hx; omega) (by have := HC5.out.lt; omega)
  have HB6 := hide (HB5.out.keep hb6 (by omega)).1
  have HC6 := hide hc6
  have HLN : Hid (20 + n0 + 8 - 20 - n0 = 8) := hide (by omega)
  rw [HLN.out] at hr6
  have HL : Hid ((splice (hdB (hdF n0) x0 (N : Int) x1 (hdL x2 x3 x4) x5 x6 x7 x8 z0) 10 (putL (csum (hdB (hdF n0) x0 (N : Int) x1 (hdL x2 x3 x4) x5 x6 x7 x8 z0)) 2)).length = 20 + n0) := hide (by rw [length_splice _ _ _ (by rw [putL_len, hdB_len]; omega), hdB_len, HZ0.out])
  have HSP : Hid (∀ ys : List Int, splice (hdB (hdF n0) x0 (N : Int) x1 (hdL x2 x3 x4) x5 x6 x7 x8 z0 ++ ys) 10 (putL (csum (hdB (hdF n0) x0 (N : Int) x1 (hdL x2 x3 x4) x5 x6 x7 x8 z0)) 2) = splice (hdB (hdF n0) x0 (N : Int) x1 (hdL x2 x3 x4) x5 x6 x7 x8 z0) 10 (putL (csum (hdB (hdF n0) x0 (N : Int) x1 (hdL x2 x3 x4) x5 x6 x7 x8 z0)) 2) ++ ys) := hide (fun ys => splice_left _ _ _ _ (by rw [putL_len, hdB_len]; omega))
  rw [HSP.out] at hr6
  have HBD : Hid (∀ z ∈ splice (hdB (hdF n0) x0 (N : Int) x1 (hdL x2 x3 x4) x5 x6 x7 x8 z0) 10 (putL (csum (hdB (hdF n0) x0 (N : Int) x1 (hdL x2 x3 x4) x5 x6 x7 x8 z0)) 2), 0 ≤ z ∧ z ≤ 255) := hide (splice_bd _ _ _ (hdB_bd _ _ _ _ _ _ _ _ _ _ HA0.out.1) (fun z hz => putL_bd _ _ z hz))
  have HR6 := hide hr6
  clear CU hc6 hr6 ho6 hb6 HB5 HC5 HR5 HH5 HSP
  generalize splice (hdB (hdF n0) x0 (N : Int) x1 (hdL x2 x3 x4) x5 x6 x7 x8 z0) 10 (putL (csum (hdB (hdF n0) x0 (N : Int) x1 (hdL x2 x3 x4) x5 x6 x7 x8 z0)) 2) = D at *
  have CB := hide (putBytes_onl (w.heap.size + 1) G (20 + n0 + 8) (20 + n0) 8 8 c1 a1 D zq w6 HC6.out HR6.out (by omega) HL.out (by omega) (by omega) (Nat.le_refl _) HZ1.out (HA1.out.below HB6.out (Nat.le_refl _)) HAG1.out)
  go_wp2_with fail
  refine CB.out.mono ?_
  rintro e w7 ⟨rfl, hc7, hr7, ho7⟩
  have hb7 : Below (w.heap.size + 1) w6 w7 := ho7.below (by intro x hx; simp at hx; omega) (by have := HC6.out.lt; omega)
  have HB7 := hide (HB6.out.trans (hb7.mono (by omega)))
  have HC7 := hide hc7
  rw [Nat.sub_self, List.replicate_zero, List.append_nil] at hr7
  have HR7 := hide hr7
  clear CB hc7 hr7 ho7 hb7 HB6 HC6 HR6
  obtain ⟨c0', c1', c2', cf⟩ := HC7.out.cells
  have HLL : Hid ((D ++ zq).length = 20 + n0 + 8) := hide (by rw [List.length_append, HL.out, HZ1.out])
  have HO := HR7.out.own (B := w.heap.size) (by omega) (fun z hz => by rcases List.mem_append.1 hz with hz | hz; exact HBD.out z hz; exact HA1.out.1 z hz) (by rw [HLL.out]; omega)
  rw [HLL.out, HLq.out] at HO
  have HO' := hide HO
  clear HO
  go_wp2_with fail
  go_ret
  exact ⟨_, rfl, HO'.out, HB7.out⟩

theorem or_nat (a b : Nat) (ha : a < 65536) (hb' : b < 65536) : bits .or .i64 (a : Int) (b : Int) = ((a ||| b : Nat) : Int) := by
  have hb : IntKind.i64.bits = 64 := rfl
  have e0 : (2 : Nat) ^ 64 = 18446744073709551616 := by decide
  have e1 : a % 18446744073709551616 = a := Nat.mod_eq_of_lt (by omega)
  have e2 : b % 18446744073709551616 = b := Nat.mod_eq_of_lt (by omega)
  have h2 : a ||| b < 2 ^ 16 := Nat.or_lt_two_pow (by omega) (by omega)
  simp only [bits, BitVec.ofInt_natCast, BitVec.toNat_or, BitVec.toNat_ofNat, hb, e0, e1, e2]
  exact wrap_i64' _ (by omega) (by omega)
theorem or_two_pow (a k x : Nat) (h : x < 2 ^ k) : 2 ^ k * a ||| x = 2 ^ k * a + x := (Nat.two_pow_add_eq_or_of_lt h a).symm
theorem hdF_is (n0 : Nat) (h : n0 ≤ 40) : hdF n0 = 64 + (20 + (n0 : Int)) / 4 := by
  unfold hdF
  have e : (20 + (n0 : Int)) / 4 = (((20 + n0) / 4 : Nat) : Int) := by omega
  rw [e, show (64 : Int) = ((64 : Nat) : Int) from rfl, or_nat _ _ (by omega) (by omega)]
  have h2 := or_two_pow 1 6 ((20 + n0) / 4) (by omega)
  rw [show 2 ^ 6 * 1 = 64 from rfl] at h2
  rw [h2]
  omega
theorem hdL_is (x2 x3 : Bool) (x4 : Int) (h0 : 0 ≤ x4) (h1 : x4 ≤ 65528) : hdL x2 x3 x4 = (if x2 then 16384 else 0) + (if x3 then 8192 else 0) + x4 / 8 := by
  obtain ⟨n, rfl⟩ := Int.eq_ofNat_of_zero_le h0
  have hn : n / 8 < 8192 := by omega
  have e : wrap64 ((n : Int).tdiv 8) = ((n / 8 : Nat) : Int) := by
    rw [show (n : Int).tdiv 8 = ((n / 8 : Nat) : Int) from rfl]
    unfold wrap64
    omega
  have o1 : bits .or .i64 ((n / 8 : Nat) : Int) 16384 = ((16384 + n / 8 : Nat) : Int) := by
    rw [show (16384 : Int) = ((16384 : Nat) : Int) from rfl, or_nat _ _ (by omega) (by omega), Nat.or_comm]
    have h2 := or_two_pow 1 14 (n / 8) (by omega)
    rw [show 2 ^ 14 * 1 = 16384 from rfl] at h2
    rw [h2]
  have o2 : bits .or .i64 ((n / 8 : Nat) : Int) 8192 = ((8192 + n / 8 : Nat) : Int) := by
    rw [show (8192 : Int) = ((8192 : Nat) : Int) from rfl, or_nat _ _ (by omega) (by omega), Nat.or_comm]
    have h2 := or_two_pow 1 13 (n / 8) (by omega)
    rw [show 2 ^ 13 * 1 = 8192 from rfl] at h2
    rw [h2]
  have o3 : bits .or .i64 ((16384 + n / 8 : Nat) : Int) 8192 = ((24576 + n / 8 : Nat) : Int) := by
    rw [show (8192 : Int) = ((8192 : Nat) : Int) from rfl, or_nat _ _ (by omega) (by omega)]
    have h1 := or_two_pow 1 14 (n / 8) (by omega)
    rw [show 2 ^ 14 * 1 = 16384 from rfl] at h1
    have h2 := or_two_pow 3 13 (n / 8) (by omega)
    rw [show 2 ^ 13 * 3 = 24576 from rfl] at h2
    rw [← h1, Nat.or_assoc, Nat.or_comm (n / 8) 8192, ← Nat.or_assoc, show 16384 ||| 8192 = 24576 from rfl, h2]
  unfold hdL
  rw [e, o1]
  cases x2 <;> cases x3
  · simp
  · rw [if_pos rfl, if_neg (by decide), if_neg (by decide), if_pos rfl, o2]; omega
  · rw [if_neg (by decide), if_pos rfl, if_pos rfl, if_neg (by decide)]; omega
  · rw [if_pos rfl, if_pos rfl, if_pos rfl, if_pos rfl, o3]; omega
theorem putL_one (v : Int) (h0 : 0 ≤ v) (h1 : v ≤ 255) : putL v 1 = [v] := by
  unfold putL byteOf
  simp
  omega
theorem putL_two (v : Int) (h0 : 0 ≤ v) (h1 : v ≤ 65535) : putL v 2 = [v / 256, v % 256] := by
  unfold putL byteOf
  simp [List.range_succ]
  omega
theorem hdB_is (x0 x1 : Int) (x2 x3 : Bool) (x4 x5 x6 x7 x8 : Int) (z0 : List Int) (n1 N : Nat) (h : pkOK x0 x1 x4 x5 x6 x7 x8 z0.length = true) (hN : 20 + (z0.length : Int) + (n1 : Int) = (N : Int)) : hdB (hdF z0.length) x0 (N : Int) x1 (hdL x2 x3 x4) x5 x6 x7 x8 z0 = ipH x0 x1 x2 x3 x4 x5 x6 x7 x8 z0 n1 := by
  obtain ⟨b0, b1, b4, b5, b6, b7, b8, l0, l1, l2⟩ := pkOK_parts h
  unfold hdB ipH
  rw [hdF_is _ l0, hdL_is _ _ _ b4.1 b4.2, putL_one _ (by omega) (by omega), putL_one x0 b0.1 b0.2, putL_one x5 b5.1 b5.2, putL_one x6 b6.1 b6.2, hN]
  simp
theorem splice_two (xs : List Int) (a b : Int) (h : 12 ≤ xs.length) : splice xs 10 [a, b] = (xs.set 10 a).set 11 b := by
  have h1 := splice_set xs 11 [] b (by omega)
  have h2 := splice_set xs 10 [b] a (by omega)
  have e : splice xs (11 + 1) [] = xs := by unfold splice; simp
  rw [e] at h1
  rw [← h2, ← h1, List.set_comm _ _ (by omega)]
theorem head_is (x0 x1 : Int) (x2 x3 : Bool) (x4 x5 x6 x7 x8 : Int) (z0 : List Int) (n1 N : Nat) (h : pkOK x0 x1 x4 x5 x6 x7 x8 z0.length = true) (hN : 20 + (z0.length : Int) + (n1 : Int) = (N : Int)) (hz : ∀ z ∈ z0, 0 ≤ z ∧ z ≤ 255) :
    splice (hdB (hdF z0.length) x0 (N : Int) x1 (hdL x2 x3 x4) x5 x6 x7 x8 z0) 10 (putL (csum (hdB (hdF z0.length) x0 (N : Int) x1 (hdL x2 x3 x4) x5 x6 x7 x8 z0)) 2) = ipHead x0 x1 x2 x3 x4 x5 x6 x7 x8 z0 n1 := by
  have hb := hdB_bd (hdF z0.length) x0 (N : Int) x1 (hdL x2 x3 x4) x5 x6 x7 x8 z0 hz
  have hl := hdB_len (hdF z0.length) x0 (N : Int) x1 (hdL x2 x3 x4) x5 x6 x7 x8 z0
  rw [hdB_is x0 x1 x2 x3 x4 x5 x6 x7 x8 z0 n1 N h hN] at hb hl ⊢
  have hc := csum_bd _ hb
  unfold ipHead
  rw [putL_two _ hc.1 hc.2, splice_two _ _ _ (by omega)]
end Go.Proofs.YtakoagfeiolkjabDoor
