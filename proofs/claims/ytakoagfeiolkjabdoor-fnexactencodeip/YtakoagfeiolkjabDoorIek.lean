/-
Contracts of functions of this seat.
-/
import Derived.Test.YtakoagfeiolkjabDoorRows
import Derived.WalkKit
import Derived.ProofKit
import Derived.OpenShut
import Derived.Test.YtakoagfeiolkjabDoorIpp
import Derived.Test.YtakoagfeiolkjabDoorIph
import Derived.Test.YtakoagfeiolkjabDoorAsm
import Derived.Test.YtakoagfeiolkjabDoorIpf
import Derived.Test.YtakoagfeiolkjabDoorAns
namespace Go.Proofs.YtakoagfeiolkjabDoor
open Go.ChangeShapes Go.WideShapes Go.ChangeAt Go.RowKit
set_option linter.unusedVariables false
set_option maxRecDepth 100000
theorem splice_left (xs ys cs : List Int) (p : Nat) (h : p + cs.length ≤ xs.length) : splice (xs ++ ys) p cs = splice xs p cs ++ ys := by
  unfold splice
  rw [List.take_append_of_le_length (by omega), List.drop_append_of_le_length h]
  simp
theorem splice_bd (xs cs : List Int) (p : Nat) (h : ∀ z ∈ xs, 0 ≤ z ∧ z ≤ 255) (k : ∀ z ∈ cs, 0 ≤ z ∧ z ≤ 255) : ∀ z ∈ splice xs p cs, 0 ≤ z ∧ z ≤ 255 := by
  intro z hz
  unfold splice at hz
  simp only [List.mem_append] at hz
  rcases hz with hz | hz | hz
  · exact h z (List.mem_of_mem_take hz)
  · exact k z hz
  · exact h z (List.mem_of_mem_drop hz)
/-- The packet's box and the cursor's, laid. -/
abbrev encPW (w : World) (x0 x1 : Int) (x2 x3 : Bool) (x4 x5 x6 x7 x8 : Int) (v0 v1 : Value) : World := (w.alloc (.cells #[.int .i64 x0, .int .i64 x1, .bool x2, .bool x3, .int .i64 x4, .int .i64 x5, .int .i64 x6, .int .i64 x7, .int .i64 x8, v0, v1] 47)).alloc (.cells #[.slice none 0 0, .int .i64 0, .nilIface] 69)
theorem encPW_facts (w : World) (x0 x1 : Int) (x2 x3 : Bool) (x4 x5 x6 x7 x8 : Int) (v0 v1 : Value) : BoxPacket w (encPW w x0 x1 x2 x3 x4 x5 x6 x7 x8 v0 v1) x0 x1 x2 x3 x4 x5 x6 x7 x8 v0 v1 ∧ Cur (encPW w x0 x1 x2 x3 x4 x5 x6 x7 x8 v0 v1) (w.heap.size + 1) (.slice none 0 0) 0 .nilIface := by
  have h1 := BoxPacket.start w x0 x1 x2 x3 x4 x5 x6 x7 x8 v0 v1 47
  have hs := World.size_alloc w (.cells #[.int .i64 x0, .int .i64 x1, .bool x2, .bool x3, .int .i64 x4, .int .i64 x5, .int .i64 x6, .int .i64 x7, .int .i64 x8, v0, v1] 47)
  refine ⟨h1.next ((Below.refl _ _).alloc (Nat.le_refl _) _), ?_⟩
  unfold Cur
  rw [← hs]
  exact heap_alloc_new _ _
set_option maxHeartbeats 4000000 in
theorem implEncIP_ok (x0 x1 : Int) (x2 x3 : Bool) (x4 x5 x6 x7 x8 : Int) (a0 : Option Addr) (n0 c0 : Nat) (a1 : Option Addr) (n1 c1 : Nat) (z0 z1 : List Int) (w : World) (h0n : z0.length = n0) (h0a : Arr w a0 z0) (h1n : z1.length = n1) (h1a : Arr w a1 z1) (m0 : n0 ≤ 1048576) (m1 : n1 ≤ 1048576) (h : pkOK x0 x1 x4 x5 x6 x7 x8 n0 = true) (N : Nat) (hN : 20 + (n0 : Int) + (n1 : Int) = (N : Int)) (hs1 : N ≤ 65535) (hs2 : x4 + (n1 : Int) ≤ 65535) (L : List Int) (hL : splice (hdB (hdF n0) x0 (N : Int) x1 (hdL x2 x3 x4) x5 x6 x7 x8 z0) 10 (putL (csum (hdB (hdF n0) x0 (N : Int) x1 (hdL x2 x3 x4) x5 x6 x7 x8 z0)) 2) ++ z1 = L) :
    Calls Tryd.prog 26 #[.agg #[.int .i64 x0, .int .i64 x1, .bool x2, .bool x3, .int .i64 x4, .int .i64 x5, .int .i64 x6, .int .i64 x7, .int .i64 x8, .slice a0 n0 c0, .slice a1 n1 c1]] w fun e w' => ∃ v : Value, e = .returned (.tuple #[v, .int .i64 0]) ∧ OwnB w' w.heap.size v L ∧ Below w.heap.size w w' := by
  have HF := hide (encPW_facts w x0 x1 x2 x3 x4 x5 x6 x7 x8 (.slice a0 n0 c0) (.slice a1 n1 c1))
  have CV := hide (fun W => by have h' := validPacket_walk x0 x1 x2 x3 x4 x5 x6 x7 x8 a0 n0 c0 a1 n1 c1 W m0; rw [h] at h'; exact h')
  have CP := hide (fun W => by have h' := headAndPayload_walk x0 x1 x2 x3 x4 x5 x6 x7 x8 a0 n0 c0 a1 n1 c1 W m0 m1; rw [hN] at h'; exact h')
  have CH := hide (fun W => by have h' := headOf_any x0 x1 x2 x3 x4 x5 x6 x7 x8 a0 n0 c0 a1 n1 c1 W m0 m1; rw [hN] at h'; exact h')
  have HNN : Hid (20 + n0 + n1 = N) := hide (by omega)
  have hi1 : (N : Int) ≤ 65535 := by omega
  have HA0 := hide h0a
  have HA1 := hide h1a
  have HZ0 := hide h0n
  have HZ1 := hide h1n
  have HLq := hide hL
  obtain ⟨_, _, b4, _, _, _, _, l0, _, _⟩ := pkOK_parts h
  have CW : Hid (∀ W, Calls Tryd.prog 59 #[.agg #[.int .i64 x0, .int .i64 x1, .bool x2, .bool x3, .int .i64 x4, .int .i64 x5, .int .i64 x6, .int .i64 x7, .int .i64 x8, .slice a0 n0 c0, .slice a1 n1 c1]] W fun e w' => e = .returned (.bool true) ∧ Below W.heap.size W w') := hide (fun W => by have h' := fitsInBytes_walk x0 x1 x2 x3 x4 x5 x6 x7 x8 a0 n0 c0 a1 n1 c1 W m0 m1 b4.1 (by omega); rw [show fitB x4 n0 n1 = true by unfold fitB; rw [decide_eq_true (by omega), decide_eq_true hs2]; rfl] at h'; exact h')
  clear h hs2 hN h0a h1a h0n h1n b4 l0 hs1 hL
  obtain ⟨⟨_, _, k0, k1, k2, k3, k4, k5, k6, k7, k8, k9, k10⟩, hc0⟩ := HF.out
  clear hc0
  go_enter Tryd.func26, Tryd.ntmps26
  go_wp2_with fail
  generalize hW : encPW w x0 x1 x2 x3 x4 x5 x6 x7 x8 (.slice a0 n0 c0) (.slice a1 n1 c1) = W at *
  unfold encPW at hW
  rw [hW]
  clear hW
  refine (CV.out _).mono ?_
  rintro e w1 ⟨rfl, hb1⟩
  have HB1 := hide (HF.out.1.next hb1)
  have HC1 := hide (HF.out.2.below hb1 HF.out.2.lt)
  clear k0 k1 k2 k3 k4 k5 k6 k7 k8 k9 k10 HF hb1 CV
  obtain ⟨_, _, k0, k1, k2, k3, k4, k5, k6, k7, k8, k9, k10⟩ := HB1.out
  go_wp2_with fail
  refine (demand_yes (w.heap.size + 1) 0 (.slice none 0 0) _ _ HC1.out).mono ?_
  rintro e w2 ⟨rfl, hw2⟩
  rw [hw2]
  clear hw2
  go_wp2_with fail
  refine (CW.out _).mono ?_
  rintro e w2 ⟨rfl, hb2⟩
  have HB2 := hide (HB1.out.next hb2)
  have HC2 := hide (HC1.out.below hb2 HC1.out.lt)
  clear k0 k1 k2 k3 k4 k5 k6 k7 k8 k9 k10 HB1 HC1 hb2
  obtain ⟨_, _, k0, k1, k2, k3, k4, k5, k6, k7, k8, k9, k10⟩ := HB2.out
  go_wp2_with fail
  refine (demand_yes (w.heap.size + 1) 0 (.slice none 0 0) _ _ HC2.out).mono ?_
  rintro e w3 ⟨rfl, hw3⟩
  rw [hw3]
  clear hw3
  go_wp2_with fail
  refine (CP.out _).mono ?_
  rintro e w3 ⟨rfl, hb3⟩
  have HB3 := hide (HB2.out.next hb3)
  have HC3 := hide (HC2.out.below hb3 HC2.out.lt)
  clear k0 k1 k2 k3 k4 k5 k6 k7 k8 k9 k10 HB2 HC2 hb3 CP CW
  have CM := hide (makeRoom_ok (w.heap.size + 1) 0 (.slice none 0 0) N w3 HC3.out (by omega))
  go_wp2_with fail
  refine CM.out.mono ?_
  rintro e w4 ⟨rfl, hc4, hr4, hg4⟩
  have hsz0 := HC3.out.lt
  have HB4 := hide (HB3.out.keep (grown_under hg4 (Nat.le_refl _) (by omega)) (by omega))
  have HC4 := hide hc4
  have HR4 := hide hr4
  clear CM hc4 hr4 hg4 HB3 HC3
  generalize w3.heap.size = G at *
  obtain ⟨_, _, k0, k1, k2, k3, k4, k5, k6, k7, k8, k9, k10⟩ := HB4.out
  go_wp2_with fail
  refine (CH.out _).mono ?_
  rintro e w5 ⟨H, rfl, hH, hb5, hh5⟩
  have HB5 := hide (HB4.out.next hb5)
  have HC5 := hide (HC4.out.below hb5 HC4.out.lt)
  have HR5 := hide (HR4.out.below hb5 HR4.out.lt)
  have hGl := HR4.out.lt
  have HH5 : Hid (HdC w5 H _ _ _ _ _ _ _ _ _ _) := hide hh5
  clear k0 k1 k2 k3 k4 k5 k6 k7 k8 k9 k10 HB4 HC4 HR4 hb5 hh5 CH
  have HAG0 : Hid (∀ j, j < z0.length → ∃ b off, a0 = some ⟨b, off, none⟩ ∧ b < w.heap.size + 1) := hide (fun j hj => by obtain ⟨b, off, e, hlt, _⟩ := HA0.out.2 j hj; exact ⟨b, off, e, by omega⟩)
  have HAG1 : Hid (∀ j, j < z1.length → ∃ b off, a1 = some ⟨b, off, none⟩ ∧ b < w.heap.size + 1) := hide (fun j hj => by obtain ⟨b, off, e, hlt, _⟩ := HA1.out.2 j hj; exact ⟨b, off, e, by omega⟩)
  have CU := hide (putHead_ok (w.heap.size + 1) G H N n0 c0 a0 _ _ _ _ _ _ _ _ _ z0 w5 HC5.out HR5.out HH5.out (by omega) (by omega) (by omega) (by have := HNN.out; omega) (by omega) HZ0.out (HA0.out.below HB5.out.1 (Nat.le_refl _)) HAG0.out)
  go_wp2_with fail
  refine CU.out.mono ?_
  rintro e w6 ⟨rfl, hc6, hr6, ho6⟩
  have hb6 : Below (w.heap.size + 1) w5 w6 := ho6.below (by intro x hx; simp at hx; omega) (by have := HC5.out.lt; omega)
  have HB6 := hide (HB5.out.keep hb6 (by omega))
  have HC6 := hide hc6
  have HLN : Hid (N - 20 - n0 = n1) := hide (by have := HNN.out; omega)
  rw [HLN.out] at hr6
  have HL : Hid ((splice (hdB (hdF n0) x0 (N : Int) x1 (hdL x2 x3 x4) x5 x6 x7 x8 z0) 10 (putL (csum (hdB (hdF n0) x0 (N : Int) x1 (hdL x2 x3 x4) x5 x6 x7 x8 z0)) 2)).length = 20 + n0) := hide (by rw [length_splice _ _ _ (by rw [putL_len, hdB_len]; omega), hdB_len, HZ0.out])
  have HSP : Hid (∀ ys : List Int, splice (hdB (hdF n0) x0 (N : Int) x1 (hdL x2 x3 x4) x5 x6 x7 x8 z0 ++ ys) 10 (putL (csum (hdB (hdF n0) x0 (N : Int) x1 (hdL x2 x3 x4) x5 x6 x7 x8 z0)) 2) = splice (hdB (hdF n0) x0 (N : Int) x1 (hdL x2 x3 x4) x5 x6 x7 x8 z0) 10 (putL (csum (hdB (hdF n0) x0 (N : Int) x1 (hdL x2 x3 x4) x5 x6 x7 x8 z0)) 2) ++ ys) := hide (fun ys => splice_left _ _ _ _ (by rw [putL_len, hdB_len]; omega))
  rw [HSP.out] at hr6
  have HBD : Hid (∀ z ∈ splice (hdB (hdF n0) x0 (N : Int) x1 (hdL x2 x3 x4) x5 x6 x7 x8 z0) 10 (putL (csum (hdB (hdF n0) x0 (N : Int) x1 (hdL x2 x3 x4) x5 x6 x7 x8 z0)) 2), 0 ≤ z ∧ z ≤ 255) := hide (splice_bd _ _ _ (hdB_bd _ _ _ _ _ _ _ _ _ _ HA0.out.1) (fun z hz => putL_bd _ _ z hz))
  have HR6 := hide hr6
  clear CU hc6 hr6 ho6 hb6 HB5 HC5 HR5 HH5 HSP
  generalize splice (hdB (hdF n0) x0 (N : Int) x1 (hdL x2 x3 x4) x5 x6 x7 x8 z0) 10 (putL (csum (hdB (hdF n0) x0 (N : Int) x1 (hdL x2 x3 x4) x5 x6 x7 x8 z0)) 2) = D at *
  obtain ⟨_, _, k0, k1, k2, k3, k4, k5, k6, k7, k8, k9, k10⟩ := HB6.out
  have CB := hide (putBytes_onl (w.heap.size + 1) G N (20 + n0) n1 n1 c1 a1 D z1 w6 HC6.out HR6.out (by omega) HL.out (by have := HNN.out; omega) (by omega) (Nat.le_refl _) HZ1.out (HA1.out.below HB6.out.1 (Nat.le_refl _)) HAG1.out)
  go_wp2_with fail
  refine CB.out.mono ?_
  rintro e w7 ⟨rfl, hc7, hr7, ho7⟩
  have hb7 : Below (w.heap.size + 1) w6 w7 := ho7.below (by intro x hx; simp at hx; omega) (by have := HC6.out.lt; omega)
  have HB7 := hide (HB6.out.keep hb7 (by omega))
  have HC7 := hide hc7
  rw [Nat.sub_self, List.replicate_zero, List.append_nil] at hr7
  have HR7 := hide hr7
  clear k0 k1 k2 k3 k4 k5 k6 k7 k8 k9 k10 CB hc7 hr7 ho7 hb7 HB6 HC6 HR6
  obtain ⟨c0', c1', c2', cf⟩ := HC7.out.cells
  have HB8 := HB7
  have HC8 := HC7
  have HR8 := HR7
  clear c0' c1' c2' cf
  obtain ⟨c0', c1', c2', cf⟩ := HC8.out.cells
  have HLL : Hid ((D ++ z1).length = N) := hide (by rw [List.length_append, HL.out, HZ1.out]; exact HNN.out)
  have HO := HR8.out.own (B := w.heap.size) (by omega) (fun z hz => by rcases List.mem_append.1 hz with hz | hz; exact HBD.out z hz; exact HA1.out.1 z hz) (by rw [HLL.out]; omega)
  rw [HLL.out, HLq.out] at HO
  have HO' := hide HO
  clear HO
  have CA := hide (ansB_nil (some ⟨G, 0, none⟩) N N w7.drew)
  have HK : Hid (w7.drew.cell? ⟨w.heap.size + 1, 0, none⟩ = some (.slice (some ⟨G, 0, none⟩) N N) ∧ w7.drew.cell? ⟨w.heap.size + 1, 2, none⟩ = some .nilIface) := hide ⟨c0', c2'⟩
  have hlt8 : w.heap.size + 1 < w7.heap.size := lt_cell c0'
  have HOD := hide HO'.out.drew
  have HBD := hide HB8.out.1.drew
  clear HO'
  go_wp2_with fail
  go_region_held3 (fun w' => w'.cell? ⟨w.heap.size + 1, 0, none⟩ = some (.slice (some ⟨G, 0, none⟩) N N) ∧ w'.cell? ⟨w.heap.size + 1, 2, none⟩ = some .nilIface) (first | with_reducible assumption | with_reducible exact HK.out)
    ((go_at_call 45; refine CA.out.mono ?_; rintro e w88 ⟨rfl, hb88⟩; have hk9 : w88.cell? ⟨w.heap.size + 1, 0, none⟩ = some (.slice (some ⟨G, 0, none⟩) N N) ∧ w88.cell? ⟨w.heap.size + 1, 2, none⟩ = some .nilIface := ⟨(hb88.cell (p := ⟨w.heap.size + 1, 0, none⟩) hlt8).trans HK.out.1, (hb88.cell (p := ⟨w.heap.size + 1, 2, none⟩) hlt8).trans HK.out.2⟩))
  all_goals
    go_wp2_with fail
    go_ret2
    exact ⟨.slice (some ⟨G, 0, none⟩) N N, rfl, HOD.out.next hb88, HBD.out.trans (hb88.mono HBD.out.size)⟩
end Go.Proofs.YtakoagfeiolkjabDoor
