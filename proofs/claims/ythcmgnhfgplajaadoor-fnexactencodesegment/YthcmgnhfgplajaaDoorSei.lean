/-
Contracts of functions of this seat.
-/
import Derived.Test.YthcmgnhfgplajaaDoorRows
import Derived.WalkKit
import Derived.ProofKit
import Derived.OpenShut
import Derived.Test.YthcmgnhfgplajaaDoorAns
namespace Go.Proofs.YthcmgnhfgplajaaDoor
open Go.ChangeShapes Go.WideShapes Go.ChangeAt Go.RowKit
set_option linter.unusedVariables false
set_option maxRecDepth 100000
theorem splice_bds (xs cs : List Int) (p : Nat) (h : ∀ z ∈ xs, 0 ≤ z ∧ z ≤ 255) (k : ∀ z ∈ cs, 0 ≤ z ∧ z ≤ 255) : ∀ z ∈ splice xs p cs, 0 ≤ z ∧ z ≤ 255 := by
  intro z hz
  unfold splice at hz
  simp only [List.mem_append] at hz
  rcases hz with hz | hz | hz
  · exact h z (List.mem_of_mem_take hz)
  · exact k z hz
  · exact h z (List.mem_of_mem_drop hz)
theorem HoldV.onlys {w w' : World} {H T : Nat} {S : List Nat} {vs : Array Value} (h : HoldV w H vs T) (k : Only S w w') (hn : H ∉ S) : HoldV w' H vs T := (k.block H h.lt hn).trans h
theorem splice_at16 (xs : List Int) (s : Int) (h : 18 ≤ xs.length) (h0 : 0 ≤ s) (h1 : s ≤ 65535) : splice xs 16 (putL s 2) = (xs.set 16 (s / 256)).set 17 (s % 256) := by
  have e2 : putL s 2 = [s / 256, s % 256] := by
    unfold putL byteOf
    simp [List.range_succ]
    omega
  rw [e2]
  have q1 := splice_set xs 17 [] (s % 256) (by omega)
  have q2 := splice_set xs 16 [s % 256] (s / 256) (by omega)
  have e : splice xs (17 + 1) [] = xs := by unfold splice; simp
  rw [e] at q1
  rw [← q2, ← q1, List.set_comm _ _ (by omega)]
theorem putL_byte (x : Int) : putL x 1 = [x % 256] := by
  unfold putL byteOf
  simp [List.range_succ]
theorem sgB_bd (x0 x1 x2 x3 x4 x5 : Int) (O z1 : List Int) (h4 : 0 ≤ x4) (h41 : x4 ≤ 63) (hO : ∀ q ∈ O, 0 ≤ q ∧ q ≤ 255) (hz : ∀ q ∈ z1, 0 ≤ q ∧ q ≤ 255) : ∀ q ∈ sgB x0 x1 x2 x3 x4 x5 O z1, 0 ≤ q ∧ q ≤ 255 := by
  intro q hq
  unfold sgB at hq
  simp only [List.mem_append] at hq
  rcases hq with ((((((hq | hq) | hq) | hq) | hq) | hq) | hq) | hq | hq
  · exact putL_bd _ _ q hq
  · exact putL_bd _ _ q hq
  · exact putL_bd _ _ q hq
  · exact putL_bd _ _ q hq
  · simp only [List.mem_cons, List.not_mem_nil, or_false] at hq
    rcases hq with rfl | rfl
    · omega
    · omega
  · exact putL_bd _ _ q hq
  · simp only [List.mem_cons, List.not_mem_nil, or_false] at hq; omega
  · exact hO q hq
  · exact hz q hq
theorem sgB_len (x0 x1 x2 x3 x4 x5 : Int) (O z1 : List Int) : (sgB x0 x1 x2 x3 x4 x5 O z1).length = 20 + O.length + z1.length := by
  unfold sgB; simp [putL_len]; omega
set_option maxHeartbeats 8000000 in
theorem implEncS_form (x0 x1 x2 x3 x4 x5 x6 : Int) (x7 : Bool) (x8 : Int) (x9 : Bool) (a0 : Option Addr) (n0 c0 : Nat) (a1 : Option Addr) (n1 c1 : Nat) (s d : Int) (z z1 : List Int) (w : World) (hz : z.length = n0 * 2) (ha : ArrI w a0 z) (m0 : n0 ≤ 1048576) (hz1 : z1.length = n1) (ha1 : Arr w a1 z1) (m1 : n1 ≤ 1048576) (h : sgV x0 x1 x2 x3 x4 x5 x6 x7 x8 n0 z s d = false) :
    Calls Tryd.prog 20 #[.agg #[.int .i64 x0, .int .i64 x1, .int .i64 x2, .int .i64 x3, .int .i64 x4, .int .i64 x5, .int .i64 x6, .bool x7, .int .i64 x8, .bool x9, .slice a0 n0 c0, .slice a1 n1 c1], .int .i64 s, .int .i64 d] w fun e w' => e = .returned (.tuple #[.slice none 0 0, .int .i64 1]) ∧ Below w.heap.size w w' := by
  have HB : Hid (HoldV (w.alloc (.cells #[.int .i64 x0, .int .i64 x1, .int .i64 x2, .int .i64 x3, .int .i64 x4, .int .i64 x5, .int .i64 x6, .bool x7, .int .i64 x8, .bool x9, .slice a0 n0 c0, .slice a1 n1 c1] sgT)) w.heap.size _ sgT) := hide (heap_alloc_new _ _)
  have HW := hide ((Below.refl w.heap.size w).alloc (Nat.le_refl _) (.cells #[.int .i64 x0, .int .i64 x1, .int .i64 x2, .int .i64 x3, .int .i64 x4, .int .i64 x5, .int .i64 x6, .bool x7, .int .i64 x8, .bool x9, .slice a0 n0 c0, .slice a1 n1 c1] sgT))
  have HV := hide (validSegment_walk x0 x1 x2 x3 x4 x5 x6 x7 x8 x9 a0 n0 c0 a1 n1 c1 z _ hz (ha.below HW.out (Nat.le_refl _)) m0)
  have HA := hide (ha.below HW.out (Nat.le_refl _))
  have HD := hide (ha1.below HW.out (Nat.le_refl _))
  have k0 := HB.out.cell 0 _ rfl; have k1 := HB.out.cell 1 _ rfl; have k2 := HB.out.cell 2 _ rfl; have k3 := HB.out.cell 3 _ rfl; have k4 := HB.out.cell 4 _ rfl; have k5 := HB.out.cell 5 _ rfl; have k6 := HB.out.cell 6 _ rfl; have k7 := HB.out.cell 7 _ rfl; have k8 := HB.out.cell 8 _ rfl; have k9 := HB.out.cell 9 _ rfl; have k10 := HB.out.cell 10 _ rfl; have k11 := HB.out.cell 11 _ rfl
  have HH : Hid (∀ o, sgOK x0 x1 x2 x3 x4 x5 x6 x7 x8 n0 z = o → (o && adrB s && adrB d) = false) := hide (fun o e => by unfold sgV at h; rw [e] at h; exact h)
  clear hz ha h hz1 ha1 HD HA
  go_enter Tryd.func20, Tryd.ntmps20
  go_wp2_with fail
  refine HV.out.mono ?_
  rintro e w1 ⟨rfl, hb1⟩
  have HW1 := hide (below_on HW.out hb1)
  clear hb1 HV HW HB k0 k1 k2 k3 k4 k5 k6 k7 k8 k9 k10 k11
  generalize sgOK x0 x1 x2 x3 x4 x5 x6 x7 x8 n0 z = o at *
  have hh := HH.out o rfl
  clear HH
  cases o
  · clear hh
    go_wp2_with fail
    go_ret2
    exact ⟨rfl, HW1.out⟩
  · cases h1 : adrB s with
    | false =>
      clear hh
      go_wp2_with (first | (go_at_call 42; refine (isAddr_walk _ _).mono ?_; rintro e w2 ⟨rfl, rfl⟩))
      go_ret2
      exact ⟨rfl, HW1.out⟩
    | true =>
      have h2 : adrB d = false := by rw [h1] at hh; simpa using hh
      clear hh
      go_wp2_with (first | (go_at_call 42; refine (isAddr_walk _ _).mono ?_; rintro e w2 ⟨rfl, rfl⟩))
      go_ret2
      exact ⟨rfl, HW1.out⟩
set_option maxHeartbeats 8000000 in
theorem implEncS_ok (x0 x1 x2 x3 x4 x5 x6 : Int) (x7 : Bool) (x8 : Int) (x9 : Bool) (a0 : Option Addr) (n0 c0 : Nat) (a1 : Option Addr) (n1 c1 : Nat) (s d : Int) (z z1 : List Int) (w : World) (hz : z.length = n0 * 2) (ha : ArrI w a0 z) (m0 : n0 ≤ 1048576) (hz1 : z1.length = n1) (ha1 : Arr w a1 z1) (m1 : n1 ≤ 1048576) (h : sgV x0 x1 x2 x3 x4 x5 x6 x7 x8 n0 z s d = true) (O : List Int) (hO : segO x6 x7 x8 x9 n0 z = O) (hOl : O.length ≤ 60) (hsize : 20 + O.length + n1 ≤ 65515) :
    Calls Tryd.prog 20 #[.agg #[.int .i64 x0, .int .i64 x1, .int .i64 x2, .int .i64 x3, .int .i64 x4, .int .i64 x5, .int .i64 x6, .bool x7, .int .i64 x8, .bool x9, .slice a0 n0 c0, .slice a1 n1 c1], .int .i64 s, .int .i64 d] w fun e w' => ∃ v : Value, e = .returned (.tuple #[v, .int .i64 0]) ∧ OwnB w' w.heap.size v (sgW x0 x1 x2 x3 x4 x5 O z1 s d) ∧ Below w.heap.size w w' := by
  have HB : Hid (HoldV (w.alloc (.cells #[.int .i64 x0, .int .i64 x1, .int .i64 x2, .int .i64 x3, .int .i64 x4, .int .i64 x5, .int .i64 x6, .bool x7, .int .i64 x8, .bool x9, .slice a0 n0 c0, .slice a1 n1 c1] sgT)) w.heap.size _ sgT) := hide (heap_alloc_new _ _)
  have HW := hide ((Below.refl w.heap.size w).alloc (Nat.le_refl _) (.cells #[.int .i64 x0, .int .i64 x1, .int .i64 x2, .int .i64 x3, .int .i64 x4, .int .i64 x5, .int .i64 x6, .bool x7, .int .i64 x8, .bool x9, .slice a0 n0 c0, .slice a1 n1 c1] sgT))
  have HV := hide (validSegment_walk x0 x1 x2 x3 x4 x5 x6 x7 x8 x9 a0 n0 c0 a1 n1 c1 z _ hz (ha.below HW.out (Nat.le_refl _)) m0)
  have HA := hide (ha.below HW.out (Nat.le_refl _))
  have HD := hide (ha1.below HW.out (Nat.le_refl _))
  have k0 := HB.out.cell 0 _ rfl; have k1 := HB.out.cell 1 _ rfl; have k2 := HB.out.cell 2 _ rfl; have k3 := HB.out.cell 3 _ rfl; have k4 := HB.out.cell 4 _ rfl; have k5 := HB.out.cell 5 _ rfl; have k6 := HB.out.cell 6 _ rfl; have k7 := HB.out.cell 7 _ rfl; have k8 := HB.out.cell 8 _ rfl; have k9 := HB.out.cell 9 _ rfl; have k10 := HB.out.cell 10 _ rfl; have k11 := HB.out.cell 11 _ rfl
  have hparts : sgOK x0 x1 x2 x3 x4 x5 x6 x7 x8 n0 z = true ∧ adrB s = true ∧ adrB d = true := by unfold sgV at h; simp only [Bool.and_eq_true] at h; exact ⟨h.1.1, h.1.2, h.2⟩
  obtain ⟨hok, hs, hd⟩ := hparts
  obtain ⟨_, _, _, _, ⟨hx40, hx41⟩, _, _, ⟨h80, h81⟩, h3, _⟩ := sgOK_parts hok
  rw [hok] at HV
  have HZ := hide hz; have HZ1 := hide hz1; have HOn := hide hOl; have HAO := hide ha1
  clear ha ha1 hz hz1 h hok hOl
  go_enter Tryd.func20, Tryd.ntmps20
  go_wp2_with fail
  refine HV.out.mono ?_
  rintro e w1 ⟨rfl, hb1⟩
  replace HB := hide (HB.out.next hb1)
  replace HW := hide (below_on HW.out hb1)
  replace HA := hide (HA.out.below hb1 (Nat.le_refl _))
  replace HD := hide (HD.out.below hb1 (Nat.le_refl _))
  clear hb1 HV k0 k1 k2 k3 k4 k5 k6 k7 k8 k9 k10 k11
  have k0 := HB.out.cell 0 _ rfl; have k1 := HB.out.cell 1 _ rfl; have k2 := HB.out.cell 2 _ rfl; have k3 := HB.out.cell 3 _ rfl; have k4 := HB.out.cell 4 _ rfl; have k5 := HB.out.cell 5 _ rfl; have k6 := HB.out.cell 6 _ rfl; have k7 := HB.out.cell 7 _ rfl; have k8 := HB.out.cell 8 _ rfl; have k9 := HB.out.cell 9 _ rfl; have k10 := HB.out.cell 10 _ rfl; have k11 := HB.out.cell 11 _ rfl
  have CO := hide (optionBytes_walk x0 x1 x2 x3 x4 x5 x6 x7 x8 x9 a0 n0 c0 a1 n1 c1 z w1 HZ.out HA.out h3 h80 h81)
  go_wp2_with (first | (go_at_call 42; refine (isAddr_walk _ _).mono ?_; rintro e w2 ⟨rfl, rfl⟩))
  refine CO.out.mono ?_
  clear CO k0 k1 k2 k3 k4 k5 k6 k7 k8 k9 k10 k11
  rintro e w2 ⟨vo, rfl, ho, hb1⟩
  rw [hO] at ho
  obtain ⟨oa, oc, hov, hoa⟩ := own_slice ho
  have HOA := hide hoa
  have HOB := hide ho.2
  replace HB := hide (HB.out.next hb1)
  replace HW := hide (below_on HW.out hb1)
  replace HD := hide (HD.out.below hb1 (Nat.le_refl _))
  clear hb1 ho hoa HA hO
  generalize hon : O.length = on at *
  subst hov
  have HON := hide hon
  clear hon
  have honb : on ≤ 60 := HOn.out
  have HBC : Hid (Below w2.heap.size w2 (w2.alloc (.cells #[.slice none 0 0, .int .i64 0, .nilIface] 70))) := hide ((Below.refl _ _).alloc (Nat.le_refl _) _)
  have HC : Hid (Cur (w2.alloc (.cells #[.slice none 0 0, .int .i64 0, .nilIface] 70)) w2.heap.size (.slice none 0 0) 0 .nilIface) := hide (heap_alloc_new _ _)
  have HHc := hide (HB.out.next HBC.out)
  have hgs := HB.out.lt
  have e20 : IntKind.i64.wrap (20 + (on : Int)) = 20 + (on : Int) := by rw [IntKind.wrap_i64]; omega
  have k11 := HHc.out.cell 11 _ rfl
  generalize hNN : 20 + on + n1 = N at *
  have eN : IntKind.i64.wrap (20 + (on : Int) + (n1 : Int)) = (N : Int) := by rw [IntKind.wrap_i64]; omega
  have hNb : (N : Int) ≤ 65515 := by omega
  have hNb2 : N ≤ 65515 := hsize
  have HNN := hide hNN
  clear hNN
  have HT : Hid (splice (sgB x0 x1 x2 x3 x4 x5 O z1) 16 (putL (fsum s d 6 (sgB x0 x1 x2 x3 x4 x5 O z1)) 2) = sgW x0 x1 x2 x3 x4 x5 O z1 s d) := hide (by
    have hb := fsum_bd s d 6 _ (sgB_bd x0 x1 x2 x3 x4 x5 O z1 hx40 hx41 HOB.out HAO.out.1)
    rw [splice_at16 _ _ (by rw [sgB_len]; omega) hb.1 hb.2]
    rfl)
  have HBD : Hid (∀ x ∈ splice (sgB x0 x1 x2 x3 x4 x5 O z1) 16 (putL (fsum s d 6 (sgB x0 x1 x2 x3 x4 x5 O z1)) 2), 0 ≤ x ∧ x ≤ 255) := hide (splice_bds _ _ _ (sgB_bd x0 x1 x2 x3 x4 x5 O z1 hx40 hx41 HOB.out HAO.out.1) (fun x hx => putL_bd _ _ x hx))
  have HHB := hide (sgB_bd x0 x1 x2 x3 x4 x5 O z1 hx40 hx41 HOB.out HAO.out.1)
  have HHL : Hid ((sgB x0 x1 x2 x3 x4 x5 O z1).length = N) := hide (by rw [sgB_len, HON.out, HZ1.out]; exact HNN.out)
  have HHU : Hid ([] ++ putL x0 2 ++ putL x1 2 ++ putL x2 4 ++ putL x3 4 ++ putL ((20 + (on : Int)) / 4 * 16) 1 ++ putL x4 1 ++ putL x5 2 ++ [0, 0] ++ [0, 0] ++ O ++ z1 = sgB x0 x1 x2 x3 x4 x5 O z1) := hide (by
    unfold sgB
    rw [putL_byte, putL_byte, HON.out, show x4 % 256 = x4 by omega]
    simp)
  generalize hTT : sgW x0 x1 x2 x3 x4 x5 O z1 s d = TT at *
  have HTT := hide hTT
  clear hTT
  generalize sgB x0 x1 x2 x3 x4 x5 O z1 = DD at *
  go_wp2_with fail
  have HBT := hide (below_on HW.out HBC.out)
  have HDT := hide (HD.out.below HBC.out (Nat.le_refl _))
  have HOT := hide (HOA.out.below HBC.out (Nat.le_refl _))
  have HAG : Hid (∀ j, j < z1.length → ∃ b off, a1 = some ⟨b, off, none⟩ ∧ b < w2.heap.size) := hide (fun j hj => by obtain ⟨b, off, e, hlt, _⟩ := HD.out.2 j hj; exact ⟨b, off, e, hlt⟩)
  have HOG : Hid (∀ j, j < O.length → ∃ b off, oa = some ⟨b, off, none⟩ ∧ b < w2.heap.size) := hide (fun j hj => by obtain ⟨b, off, e, hlt, _⟩ := HOA.out.2 j hj; exact ⟨b, off, e, hlt⟩)
  have hgg : w2.heap.size < (w2.alloc (.cells #[.slice none 0 0, .int .i64 0, .nilIface] 70)).heap.size := HC.out.lt
  generalize w2.alloc (.cells #[.slice none 0 0, .int .i64 0, .nilIface] 70) = W at *
  clear HB HW HD HOA HBC k11
  generalize hgw : w2.heap.size = g at *
  clear hgw
  refine (demand_yes g 0 (.slice none 0 0) _ _ HC.out).mono ?_
  rintro e w2' ⟨rfl, hw2⟩
  rw [hw2]
  clear hw2 w2'
  have CM := hide (makeRoom_ok g 0 (.slice none 0 0) N W HC.out (by omega))
  have k11 := HHc.out.cell 11 _ rfl
  go_wp2_with fail
  refine CM.out.mono ?_
  rintro e w0 ⟨rfl, hc, hr, hgr⟩
  have HC0 := hide hc
  have HR0 : Hid (RowB w0 W.heap.size ([] ++ List.replicate N 0)) := hide hr
  have HH0 := hide (HHc.out.onlys (Only.of_some hgr) (by simp; omega))
  have HB0 := hide (HBT.out.grown hgr HBT.out.size (fun k hk => by cases hk; omega))
  have HDT0 := hide (arr_only HDT.out (Only.of_some hgr) (fun j hj => by obtain ⟨b, off, e, hlt⟩ := HAG.out j hj; exact ⟨b, off, e, by simp; omega⟩))
  have HOT0 := hide (arr_only HOT.out (Only.of_some hgr) (fun j hj => by obtain ⟨b, off, e, hlt⟩ := HOG.out j hj; exact ⟨b, off, e, by simp; omega⟩))
  clear CM hc hr hgr HHc HBT HC k11 HDT HOT
  generalize hG : W.heap.size = G at *
  clear hG
  have hg : g < G := hgg
  have HGB : Hid (w.heap.size < g) := hide hgs
  have HNE : Hid (w.heap.size ∉ [g, G]) := hide (by simp; omega)
  have HO0 : Hid (Only [g, G] w0 w0) := hide (Only.refl _ _)
  have hN20 : 20 ≤ N := by have := HNN.out; omega
  clear hgg
  have C := hide (put_on2 g G N 0 (N) x0 ([]) _ HC0.out HR0.out hg rfl (by omega) (by omega) (by omega))
  have k0 := HH0.out.cell 0 _ rfl
  go_wp2_with fail
  refine C.out.mono ?_
  rintro e w1q ⟨rfl, hc, hr, ho⟩
  have HC1 : Hid (Cur w1q g (.slice (some ⟨G, 0, none⟩) N N) 2 .nilIface) := hide hc
  have HR1 := hide hr
  have HH1 := hide (HH0.out.onlys ho HNE.out)
  have HO1 := hide (HO0.out.trans ho)
  clear C hc hr ho HC0 HR0 HH0 HO0 k0
  have C := hide (put_on2 g G N 2 (N - 2) x1 ([] ++ putL x0 2) _ HC1.out HR1.out hg (by simp [putL_len]) (by omega) (by omega) (by omega))
  have k1 := HH1.out.cell 1 _ rfl
  go_wp2_with fail
  refine C.out.mono ?_
  rintro e w2q ⟨rfl, hc, hr, ho⟩
  have HC2 : Hid (Cur w2q g (.slice (some ⟨G, 0, none⟩) N N) 4 .nilIface) := hide hc
  have HR2 := hide hr
  have HH2 := hide (HH1.out.onlys ho HNE.out)
  have HO2 := hide (HO1.out.trans ho)
  clear C hc hr ho HC1 HR1 HH1 HO1 k1
  have C := hide (put_on4 g G N 4 (N - 2 - 2) x2 ([] ++ putL x0 2 ++ putL x1 2) _ HC2.out HR2.out hg (by simp [putL_len]) (by omega) (by omega) (by omega))
  have k2 := HH2.out.cell 2 _ rfl
  go_wp2_with fail
  refine C.out.mono ?_
  rintro e w3q ⟨rfl, hc, hr, ho⟩
  have HC3 : Hid (Cur w3q g (.slice (some ⟨G, 0, none⟩) N N) 8 .nilIface) := hide hc
  have HR3 := hide hr
  have HH3 := hide (HH2.out.onlys ho HNE.out)
  have HO3 := hide (HO2.out.trans ho)
  clear C hc hr ho HC2 HR2 HH2 HO2 k2
  have C := hide (put_on4 g G N 8 (N - 2 - 2 - 4) x3 ([] ++ putL x0 2 ++ putL x1 2 ++ putL x2 4) _ HC3.out HR3.out hg (by simp [putL_len]) (by omega) (by omega) (by omega))
  have k3 := HH3.out.cell 3 _ rfl
  go_wp2_with fail
  refine C.out.mono ?_
  rintro e w4q ⟨rfl, hc, hr, ho⟩
  have HC4 : Hid (Cur w4q g (.slice (some ⟨G, 0, none⟩) N N) 12 .nilIface) := hide hc
  have HR4 := hide hr
  have HH4 := hide (HH3.out.onlys ho HNE.out)
  have HO4 := hide (HO3.out.trans ho)
  clear C hc hr ho HC3 HR3 HH3 HO3 k3
  have C := hide (put_on1 g G N 12 (N - 2 - 2 - 4 - 4) ((20 + (on : Int)) / 4 * 16) ([] ++ putL x0 2 ++ putL x1 2 ++ putL x2 4 ++ putL x3 4) _ HC4.out HR4.out hg (by simp [putL_len]) (by omega) (by omega) (by omega))
  go_wp2_with fail
  refine C.out.mono ?_
  rintro e w5q ⟨rfl, hc, hr, ho⟩
  have HC5 : Hid (Cur w5q g (.slice (some ⟨G, 0, none⟩) N N) 13 .nilIface) := hide hc
  have HR5 := hide hr
  have HH5 := hide (HH4.out.onlys ho HNE.out)
  have HO5 := hide (HO4.out.trans ho)
  clear C hc hr ho HC4 HR4 HH4 HO4
  have C := hide (put_on1 g G N 13 (N - 2 - 2 - 4 - 4 - 1) x4 ([] ++ putL x0 2 ++ putL x1 2 ++ putL x2 4 ++ putL x3 4 ++ putL ((20 + (on : Int)) / 4 * 16) 1) _ HC5.out HR5.out hg (by simp [putL_len]) (by omega) (by omega) (by omega))
  have k4 := HH5.out.cell 4 _ rfl
  go_wp2_with fail
  refine C.out.mono ?_
  rintro e w6q ⟨rfl, hc, hr, ho⟩
  have HC6 : Hid (Cur w6q g (.slice (some ⟨G, 0, none⟩) N N) 14 .nilIface) := hide hc
  have HR6 := hide hr
  have HH6 := hide (HH5.out.onlys ho HNE.out)
  have HO6 := hide (HO5.out.trans ho)
  clear C hc hr ho HC5 HR5 HH5 HO5 k4
  have C := hide (put_on2 g G N 14 (N - 2 - 2 - 4 - 4 - 1 - 1) x5 ([] ++ putL x0 2 ++ putL x1 2 ++ putL x2 4 ++ putL x3 4 ++ putL ((20 + (on : Int)) / 4 * 16) 1 ++ putL x4 1) _ HC6.out HR6.out hg (by simp [putL_len]) (by omega) (by omega) (by omega))
  have k5 := HH6.out.cell 5 _ rfl
  go_wp2_with fail
  refine C.out.mono ?_
  rintro e w7q ⟨rfl, hc, hr, ho⟩
  have HC7 : Hid (Cur w7q g (.slice (some ⟨G, 0, none⟩) N N) 16 .nilIface) := hide hc
  have HR7 := hide hr
  have HH7 := hide (HH6.out.onlys ho HNE.out)
  have HO7 := hide (HO6.out.trans ho)
  clear C hc hr ho HC6 HR6 HH6 HO6 k5
  have C := hide (pass_on2 g G N 16 _ HC7.out (by omega) (by omega))
  go_wp2_with fail
  refine C.out.mono ?_
  rintro e w8q ⟨rfl, hc, ho⟩
  have HC8 : Hid (Cur w8q g (.slice (some ⟨G, 0, none⟩) N N) 18 .nilIface) := hide hc
  have hr := HR7.out.kept ho (by intro e; cases e; omega)
  rw [rep_two _ _ (by omega)] at hr
  have HR8 := hide hr
  have ho2 : Only [g, G] _ w8q := (Only.of_some ho).mono (by simp)
  have HH8 := hide (HH7.out.onlys ho2 HNE.out)
  have HO8 := hide (HO7.out.trans ho2)
  clear C hc hr ho ho2 HC7 HR7 HH7 HO7
  have C := hide (pass_on2 g G N 18 _ HC8.out (by omega) (by omega))
  go_wp2_with fail
  refine C.out.mono ?_
  rintro e w9q ⟨rfl, hc, ho⟩
  have HC9 : Hid (Cur w9q g (.slice (some ⟨G, 0, none⟩) N N) 20 .nilIface) := hide hc
  have hr := HR8.out.kept ho (by intro e; cases e; omega)
  rw [rep_two _ _ (by omega)] at hr
  have HR9 := hide hr
  have ho2 : Only [g, G] _ w9q := (Only.of_some ho).mono (by simp)
  have HH9 := hide (HH8.out.onlys ho2 HNE.out)
  have HO9 := hide (HO8.out.trans ho2)
  clear C hc hr ho ho2 HC8 HR8 HH8 HO8
  have HDD : Hid (([] ++ putL x0 2 ++ putL x1 2 ++ putL x2 4 ++ putL x3 4 ++ putL ((20 + (on : Int)) / 4 * 16) 1 ++ putL x4 1 ++ putL x5 2 ++ [0, 0] ++ [0, 0]).length = 20) := hide (by simp [putL_len])
  generalize hdn : [] ++ putL x0 2 ++ putL x1 2 ++ putL x2 4 ++ putL x3 4 ++ putL ((20 + (on : Int)) / 4 * 16) 1 ++ putL x4 1 ++ putL x5 2 ++ [0, 0] ++ [0, 0] = dn at *
  have HDN := hide hdn
  clear hdn
  have HMM : Hid (N - 2 - 2 - 4 - 4 - 1 - 1 - 2 - 2 - 2 = on + n1) := hide (by have := HNN.out; omega)
  have HAX := hide (arr_only HDT0.out HO9.out (fun j hj => by obtain ⟨b, off, e, hlt⟩ := HAG.out j hj; exact ⟨b, off, e, by simp; omega⟩))
  have HOX := hide (arr_only HOT0.out HO9.out (fun j hj => by obtain ⟨b, off, e, hlt⟩ := HOG.out j hj; exact ⟨b, off, e, by simp; omega⟩))
  have HR0' : Hid (RowB _ G (dn ++ List.replicate (on + n1) 0)) := hide (by have h := HR9.out; rw [HMM.out] at h; exact h)
  clear HR9 HMM
  have C := hide (putBytes_onl g G N 20 (on + n1) on oc oa dn O _ HC9.out HR0'.out hg HDD.out (by have := HNN.out; omega) (by omega) (by omega) HON.out HOX.out HOG.out)
  go_wp2_with fail
  refine C.out.mono ?_
  rintro e wo ⟨rfl, hc, hr, ho⟩
  have HC10 : Hid (Cur wo g (.slice (some ⟨G, 0, none⟩) N N) (20 + on) .nilIface) := hide hc
  have HR10 : Hid (RowB wo G (dn ++ O ++ List.replicate n1 0)) := hide (by rw [show on + n1 - on = n1 by omega] at hr; exact hr)
  have HH10 := hide (HH9.out.onlys ho HNE.out)
  have HO10 := hide (HO9.out.trans ho)
  have HAY := hide (arr_only HAX.out ho (fun j hj => by obtain ⟨b, off, e, hlt⟩ := HAG.out j hj; exact ⟨b, off, e, by simp; omega⟩))
  clear C hc hr ho HC9 HR0' HH9 HO9 HAX HOX
  have C := hide (putBytes_onl g G N (20 + on) n1 n1 c1 a1 (dn ++ O) z1 _ HC10.out HR10.out hg (by rw [List.length_append, HDD.out, HON.out]) (by have := HNN.out; omega) (by omega) (Nat.le_refl _) HZ1.out HAY.out HAG.out)
  have k11 := HH10.out.cell 11 _ rfl
  go_wp2_with fail
  refine C.out.mono ?_
  rintro e w5 ⟨rfl, hc, hr, ho⟩
  have HC5 : Hid (Cur w5 g (.slice (some ⟨G, 0, none⟩) N N) N .nilIface) := hide (by rw [HNN.out] at hc; exact hc)
  have HR5 : Hid (RowB w5 G DD) := hide (by
    rw [Nat.sub_self, List.replicate_zero, List.append_nil, HHU.out] at hr
    exact hr)
  have HO5 := hide (HO10.out.trans ho)
  clear C hc hr ho HC10 HR10 HH10 HO10 HAY HHU k11 HDN HDD
  have CP := hide (passed_walk g N N N G 0 .nilIface w5 HC5.out (Nat.le_refl _) (by omega))
  go_wp2_with fail
  refine CP.out.mono ?_
  rintro e wa ⟨rfl, m, rfl⟩
  have CK := hide (sumFH_walk (some ⟨G, 0, none⟩) N N s d 6 DD (w5.drewN m) HHL.out (HR5.out.arr HHB.out) (by omega))
  clear CP
  generalize fsum s d 6 DD = S at *
  go_wp2_with fail
  refine CK.out.mono ?_
  rintro e wb ⟨rfl, hbk⟩
  have hb2 : Below w5.heap.size w5 wb := ⟨hbk.os, hbk.tape, hbk.output, hbk.size, hbk.block⟩
  have HC6 := hide (HC5.out.below hb2 HC5.out.lt)
  have HR6 := hide (HR5.out.below hb2 HR5.out.lt)
  have HO6 := hide (HO5.out.trans (Only.of_below hb2))
  clear CK hbk hb2 HC5 HR5 HO5
  have CN := hide (putNumber_at G 16 2 (N - 16) S _ wb (by omega) HR6.out (by rw [HHL.out]; omega))
  go_wp2_with fail
  refine CN.out.mono ?_
  rintro e wd ⟨rfl, hr, hgc⟩
  have HC7 := hide (HC6.out.kept hgc (by intro e; cases e; omega))
  have HR7 : Hid (RowB wd G TT) := hide (by rw [← HT.out]; exact hr)
  have HO7 := hide (HO6.out.trans ((Only.of_some hgc).mono (by simp)))
  clear CN hr hgc HC6 HR6 HO6
  have HB7 : Hid (Below w.heap.size w wd) := hide (HB0.out.trans (Only.below HO7.out (by intro b hb; have := HGB.out; simp at hb; omega) HB0.out.size))
  have HL7 : Hid (TT.length = N) := hide (by rw [← HT.out]; unfold splice; have := HHL.out; simp [putL_len]; omega)
  have ho := HR7.out.own (B := w.heap.size) (by have := HGB.out; omega) (by rw [← HT.out]; exact HBD.out) (by rw [HL7.out]; omega)
  rw [HL7.out] at ho
  have HW7 := hide ho
  clear ho
  have HW8 := hide (HW7.out.drew)
  have HB8 := hide (HB7.out.drew)
  obtain ⟨c0, c1, c2, cf⟩ := HC7.out.cells
  have HC8 : Hid (Cur wd.drew g (.slice (some ⟨G, 0, none⟩) N N) N .nilIface) := hide HC7.out
  clear HW7 HB7 HR7
  go_wp2_with fail
  go_region_held3 (fun w' => w'.cell? ⟨g, 0, none⟩ = some (.slice (some ⟨G, 0, none⟩) N N) ∧ w'.cell? ⟨g, 2, none⟩ = some .nilIface) (first | with_reducible assumption | exact ⟨HC8.out.cells.1, HC8.out.cells.2.2.1⟩ | exact ⟨(HC8.out.below hb8 HC8.out.lt).cells.1, (HC8.out.below hb8 HC8.out.lt).cells.2.2.1⟩)
    ((go_at_call 61; refine (ansB_nil _ _ _ _).mono ?_; rintro e w8 ⟨rfl, hb8⟩))
  all_goals
    have HO8 := hide (HW8.out.next hb8)
    have HB9 := hide (HB8.out.trans (hb8.mono HB8.out.size))
    clear hb8
    go_wp2_with fail
    go_ret2
    exact ⟨_, rfl, by have h := HO8.out; rw [← HTT.out] at h; exact h, HB9.out⟩
set_option maxHeartbeats 8000000 in
theorem implEncS_size (x0 x1 x2 x3 x4 x5 x6 : Int) (x7 : Bool) (x8 : Int) (x9 : Bool) (a0 : Option Addr) (n0 c0 : Nat) (a1 : Option Addr) (n1 c1 : Nat) (s d : Int) (z z1 : List Int) (w : World) (hz : z.length = n0 * 2) (ha : ArrI w a0 z) (m0 : n0 ≤ 1048576) (hz1 : z1.length = n1) (ha1 : Arr w a1 z1) (m1 : n1 ≤ 1048576) (h : sgV x0 x1 x2 x3 x4 x5 x6 x7 x8 n0 z s d = true) (O : List Int) (hO : segO x6 x7 x8 x9 n0 z = O) (hOl : O.length ≤ 60) (hsize : 65515 < 20 + O.length + n1) (he : ErrT w) :
    Calls Tryd.prog 20 #[.agg #[.int .i64 x0, .int .i64 x1, .int .i64 x2, .int .i64 x3, .int .i64 x4, .int .i64 x5, .int .i64 x6, .bool x7, .int .i64 x8, .bool x9, .slice a0 n0 c0, .slice a1 n1 c1], .int .i64 s, .int .i64 d] w fun e w' => e = .returned (.tuple #[.slice none 0 0, .int .i64 7]) ∧ Below w.heap.size w w' := by
  have HB : Hid (HoldV (w.alloc (.cells #[.int .i64 x0, .int .i64 x1, .int .i64 x2, .int .i64 x3, .int .i64 x4, .int .i64 x5, .int .i64 x6, .bool x7, .int .i64 x8, .bool x9, .slice a0 n0 c0, .slice a1 n1 c1] sgT)) w.heap.size _ sgT) := hide (heap_alloc_new _ _)
  have HW := hide ((Below.refl w.heap.size w).alloc (Nat.le_refl _) (.cells #[.int .i64 x0, .int .i64 x1, .int .i64 x2, .int .i64 x3, .int .i64 x4, .int .i64 x5, .int .i64 x6, .bool x7, .int .i64 x8, .bool x9, .slice a0 n0 c0, .slice a1 n1 c1] sgT))
  have HV := hide (validSegment_walk x0 x1 x2 x3 x4 x5 x6 x7 x8 x9 a0 n0 c0 a1 n1 c1 z _ hz (ha.below HW.out (Nat.le_refl _)) m0)
  have HA := hide (ha.below HW.out (Nat.le_refl _))
  have HD := hide (ha1.below HW.out (Nat.le_refl _))
  have k0 := HB.out.cell 0 _ rfl; have k1 := HB.out.cell 1 _ rfl; have k2 := HB.out.cell 2 _ rfl; have k3 := HB.out.cell 3 _ rfl; have k4 := HB.out.cell 4 _ rfl; have k5 := HB.out.cell 5 _ rfl; have k6 := HB.out.cell 6 _ rfl; have k7 := HB.out.cell 7 _ rfl; have k8 := HB.out.cell 8 _ rfl; have k9 := HB.out.cell 9 _ rfl; have k10 := HB.out.cell 10 _ rfl; have k11 := HB.out.cell 11 _ rfl
  have HE := hide he
  clear he
  have hparts : sgOK x0 x1 x2 x3 x4 x5 x6 x7 x8 n0 z = true ∧ adrB s = true ∧ adrB d = true := by unfold sgV at h; simp only [Bool.and_eq_true] at h; exact ⟨h.1.1, h.1.2, h.2⟩
  obtain ⟨hok, hs, hd⟩ := hparts
  obtain ⟨_, _, _, _, ⟨hx40, hx41⟩, _, _, ⟨h80, h81⟩, h3, _⟩ := sgOK_parts hok
  rw [hok] at HV
  have HZ := hide hz; have HZ1 := hide hz1; have HOn := hide hOl; have HAO := hide ha1
  clear ha ha1 hz hz1 h hok hOl
  go_enter Tryd.func20, Tryd.ntmps20
  go_wp2_with fail
  refine HV.out.mono ?_
  rintro e w1 ⟨rfl, hb1⟩
  replace HB := hide (HB.out.next hb1)
  replace HW := hide (below_on HW.out hb1)
  replace HA := hide (HA.out.below hb1 (Nat.le_refl _))
  replace HD := hide (HD.out.below hb1 (Nat.le_refl _))
  clear hb1 HV k0 k1 k2 k3 k4 k5 k6 k7 k8 k9 k10 k11
  have k0 := HB.out.cell 0 _ rfl; have k1 := HB.out.cell 1 _ rfl; have k2 := HB.out.cell 2 _ rfl; have k3 := HB.out.cell 3 _ rfl; have k4 := HB.out.cell 4 _ rfl; have k5 := HB.out.cell 5 _ rfl; have k6 := HB.out.cell 6 _ rfl; have k7 := HB.out.cell 7 _ rfl; have k8 := HB.out.cell 8 _ rfl; have k9 := HB.out.cell 9 _ rfl; have k10 := HB.out.cell 10 _ rfl; have k11 := HB.out.cell 11 _ rfl
  have CO := hide (optionBytes_walk x0 x1 x2 x3 x4 x5 x6 x7 x8 x9 a0 n0 c0 a1 n1 c1 z w1 HZ.out HA.out h3 h80 h81)
  go_wp2_with (first | (go_at_call 42; refine (isAddr_walk _ _).mono ?_; rintro e w2 ⟨rfl, rfl⟩))
  refine CO.out.mono ?_
  clear CO k0 k1 k2 k3 k4 k5 k6 k7 k8 k9 k10 k11
  rintro e w2 ⟨vo, rfl, ho, hb1⟩
  rw [hO] at ho
  obtain ⟨oa, oc, hov, hoa⟩ := own_slice ho
  have HOA := hide hoa
  have HOB := hide ho.2
  replace HB := hide (HB.out.next hb1)
  replace HW := hide (below_on HW.out hb1)
  replace HD := hide (HD.out.below hb1 (Nat.le_refl _))
  clear hb1 ho hoa HA hO
  generalize hon : O.length = on at *
  subst hov
  have HON := hide hon
  clear hon
  have honb : on ≤ 60 := HOn.out
  have HBC : Hid (Below w2.heap.size w2 (w2.alloc (.cells #[.slice none 0 0, .int .i64 0, .nilIface] 70))) := hide ((Below.refl _ _).alloc (Nat.le_refl _) _)
  have HC : Hid (Cur (w2.alloc (.cells #[.slice none 0 0, .int .i64 0, .nilIface] 70)) w2.heap.size (.slice none 0 0) 0 .nilIface) := hide (heap_alloc_new _ _)
  have HHc := hide (HB.out.next HBC.out)
  have hgs := HB.out.lt
  have e20 : IntKind.i64.wrap (20 + (on : Int)) = 20 + (on : Int) := by rw [IntKind.wrap_i64]; omega
  have k11 := HHc.out.cell 11 _ rfl
  have eN : IntKind.i64.wrap (20 + (on : Int) + (n1 : Int)) = 20 + (on : Int) + (n1 : Int) := by rw [IntKind.wrap_i64]; omega
  have hNb : ¬ (20 + (on : Int) + (n1 : Int)) ≤ 65515 := by omega
  have hNd : decide ((20 + (on : Int) + (n1 : Int)) ≤ 65515) = false := decide_eq_false hNb
  go_wp2_with fail
  have HBT := hide (below_on HW.out HBC.out)
  have hgg : w2.heap.size < (w2.alloc (.cells #[.slice none 0 0, .int .i64 0, .nilIface] 70)).heap.size := HC.out.lt
  generalize w2.alloc (.cells #[.slice none 0 0, .int .i64 0, .nilIface] 70) = W at *
  clear HB HW HD HOA HBC k11
  generalize hgw : w2.heap.size = g at *
  clear hgw
  refine (demand_no g 0 (.slice none 0 0) _ _ HC.out).mono ?_
  rintro e wq ⟨rfl, hc, hgr⟩
  have HC2 := hide hc
  have HH2 := hide (HHc.out.onlys (Only.of_some hgr) (by simp; omega))
  have HB2 := hide (HBT.out.grown hgr HBT.out.size (fun k hk => by cases hk; omega))
  clear hc hgr HHc HBT HC
  have k11 := HH2.out.cell 11 _ rfl
  go_wp2_with fail
  refine (makeRoom_err g 0 _ 7 _ _ HC2.out).mono ?_
  rintro e w3 ⟨rfl, hw3⟩
  rw [hw3]
  clear hw3 k11
  have k0 := (show HoldV wq _ _ _ from HH2.out).cell 0 _ rfl
  go_wp2_with fail
  refine (put_err g 0 0 0 none 7 _ 2 _ (show Cur wq _ _ _ _ from HC2.out) (by omega) (by omega) (by omega) (by omega)).mono ?_
  rintro e v0 ⟨rfl, m0, rfl⟩
  clear k0
  have k1 := (show HoldV (wq.drewN (m0)) _ _ _ from HH2.out).cell 1 _ rfl
  go_wp2_with fail
  refine (put_err g 0 0 0 none 7 _ 2 _ (show Cur (wq.drewN (m0)) _ _ _ _ from HC2.out) (by omega) (by omega) (by omega) (by omega)).mono ?_
  rintro e v1 ⟨rfl, m1, rfl⟩
  clear k1
  have k2 := (show HoldV (wq.drewN (m0 + m1)) _ _ _ from HH2.out).cell 2 _ rfl
  go_wp2_with fail
  refine (put_err g 0 0 0 none 7 _ 4 _ (show Cur (wq.drewN (m0 + m1)) _ _ _ _ from HC2.out) (by omega) (by omega) (by omega) (by omega)).mono ?_
  rintro e v2 ⟨rfl, m2, rfl⟩
  clear k2
  have k3 := (show HoldV (wq.drewN (m0 + m1 + m2)) _ _ _ from HH2.out).cell 3 _ rfl
  go_wp2_with fail
  refine (put_err g 0 0 0 none 7 _ 4 _ (show Cur (wq.drewN (m0 + m1 + m2)) _ _ _ _ from HC2.out) (by omega) (by omega) (by omega) (by omega)).mono ?_
  rintro e v3 ⟨rfl, m3, rfl⟩
  clear k3
  go_wp2_with fail
  refine (put_err g 0 0 0 none 7 _ 1 _ (show Cur (wq.drewN (m0 + m1 + m2 + m3)) _ _ _ _ from HC2.out) (by omega) (by omega) (by omega) (by omega)).mono ?_
  rintro e v4 ⟨rfl, m4, rfl⟩
  have k4 := (show HoldV (wq.drewN (m0 + m1 + m2 + m3 + m4)) _ _ _ from HH2.out).cell 4 _ rfl
  go_wp2_with fail
  refine (put_err g 0 0 0 none 7 _ 1 _ (show Cur (wq.drewN (m0 + m1 + m2 + m3 + m4)) _ _ _ _ from HC2.out) (by omega) (by omega) (by omega) (by omega)).mono ?_
  rintro e v5 ⟨rfl, m5, rfl⟩
  clear k4
  have k5 := (show HoldV (wq.drewN (m0 + m1 + m2 + m3 + m4 + m5)) _ _ _ from HH2.out).cell 5 _ rfl
  go_wp2_with fail
  refine (put_err g 0 0 0 none 7 _ 2 _ (show Cur (wq.drewN (m0 + m1 + m2 + m3 + m4 + m5)) _ _ _ _ from HC2.out) (by omega) (by omega) (by omega) (by omega)).mono ?_
  rintro e v6 ⟨rfl, m6, rfl⟩
  clear k5
  go_wp2_with fail
  refine (pass_err g 0 0 0 none 7 2 _ (show Cur (wq.drewN (m0 + m1 + m2 + m3 + m4 + m5 + m6)) _ _ _ _ from HC2.out) (by omega) (by omega) (by omega) (by omega)).mono ?_
  rintro e v7 ⟨rfl, m7, rfl⟩
  go_wp2_with fail
  refine (pass_err g 0 0 0 none 7 2 _ (show Cur (wq.drewN (m0 + m1 + m2 + m3 + m4 + m5 + m6 + m7)) _ _ _ _ from HC2.out) (by omega) (by omega) (by omega) (by omega)).mono ?_
  rintro e v8 ⟨rfl, m8, rfl⟩
  go_wp2_with fail
  refine (putBytes_err g 0 0 0 on oc none oa 7 _ (show Cur (wq.drewN (m0 + m1 + m2 + m3 + m4 + m5 + m6 + m7 + m8)) _ _ _ _ from HC2.out) (by omega) (by omega) (by omega)).mono ?_
  rintro e v ⟨rfl, mb, rfl⟩
  have k11 := (show HoldV (wq.drewN (m0 + m1 + m2 + m3 + m4 + m5 + m6 + m7 + m8 + mb)) _ _ _ from HH2.out).cell 11 _ rfl
  go_wp2_with fail
  refine (putBytes_err g 0 0 0 n1 c1 none a1 7 _ (show Cur (wq.drewN (m0 + m1 + m2 + m3 + m4 + m5 + m6 + m7 + m8 + mb)) _ _ _ _ from HC2.out) (by omega) (by omega) (by omega)).mono ?_
  rintro e v ⟨rfl, mc, rfl⟩
  clear k11
  go_wp2_with fail
  refine (passed_none g (wErr 7) _ (show Cur (wq.drewN (m0 + m1 + m2 + m3 + m4 + m5 + m6 + m7 + m8 + mb + mc)) _ _ _ _ from HC2.out)).mono ?_
  rintro e v ⟨rfl, mp, rfl⟩
  have CK := hide (fun W => sumFH_walk none 0 0 s d 6 [] W rfl ⟨by simp, fun j hj => by simp at hj⟩ (by omega))
  go_wp2_with fail
  refine (CK.out _).mono ?_
  rintro e wb ⟨rfl, hbk⟩
  have hb2 : Below wq.heap.size wq wb := ⟨hbk.os, hbk.tape, hbk.output, hbk.size, hbk.block⟩
  have HC3 := hide (HC2.out.below hb2 HC2.out.lt)
  have HB3 := hide (HB2.out.trans (hb2.mono HB2.out.size))
  clear hbk hb2 CK HC2 HB2 HH2
  go_wp2_with fail
  refine (putNumber_none _ _).mono ?_
  rintro e v ⟨rfl, rfl⟩
  obtain ⟨c0, c1, c2, cf⟩ := HC3.out.cells
  have HC7 : Hid (Cur v.drew g (.slice none 0 0) 0 (wErr 7)) := hide HC3.out
  have HB7 := hide HB3.out.drew
  have HE7 := hide (HE.out.below HB7.out (Nat.le_refl _))
  have CA := hide (ansB_err none 0 0 7 (by decide) _ HE7.out)
  clear HE HE7 HB3 HC3 c0 c1 c2 cf
  go_wp2_with fail
  go_region_held3 (fun w' => w'.cell? ⟨g, 0, none⟩ = some (.slice none 0 0) ∧ w'.cell? ⟨g, 2, none⟩ = some (wErr 7)) (first | with_reducible assumption | exact ⟨HC7.out.cells.1, HC7.out.cells.2.2.1⟩ | exact ⟨(HC7.out.below hb8 HC7.out.lt).cells.1, (HC7.out.below hb8 HC7.out.lt).cells.2.2.1⟩)
    ((go_at_call 61; refine CA.out.mono ?_; rintro e w8 ⟨rfl, hb8⟩))
  all_goals
    have HB8 := hide (HB7.out.trans (hb8.mono HB7.out.size))
    clear hb8
    go_wp2_with fail
    go_ret2
    exact ⟨rfl, HB8.out⟩
theorem implEncSeg (x0 x1 x2 x3 x4 x5 x6 : Int) (x7 : Bool) (x8 : Int) (x9 : Bool) (z z1 : List Int) (s d : Int) (n0 : Nat) (hz : z.length = n0 * 2) : EncodeSegmentP 20 ErrT x0 x1 x2 x3 x4 x5 x6 x7 x8 x9 z z1 s d (sgL x0 x1 x2 x3 x4 x5 x6 x7 x8 x9 z z1 n0 s d) (sgC x0 x1 x2 x3 x4 x5 x6 x7 x8 x9 z z1 n0 s d) := by
  intro a0 m0' c0 a1 n1 c1 W h0 ha _ m0 h1 ha1 _ m1 he
  have e0 : m0' = n0 := by omega
  subst e0
  cases hv : sgV x0 x1 x2 x3 x4 x5 x6 x7 x8 m0' z s d with
  | false =>
    have eC : sgC x0 x1 x2 x3 x4 x5 x6 x7 x8 x9 z z1 m0' s d = 1 := by unfold sgC; rw [hv]; rfl
    have eL : sgL x0 x1 x2 x3 x4 x5 x6 x7 x8 x9 z z1 m0' s d = [] := by unfold sgL; rw [eC]; rfl
    rw [eC, eL]
    refine (implEncS_form x0 x1 x2 x3 x4 x5 x6 x7 x8 x9 a0 m0' c0 a1 n1 c1 s d z z1 W hz ha m0 h1 ha1 m1 hv).mono ?_
    rintro e w' ⟨rfl, hb⟩
    exact ⟨_, rfl, ⟨World.ownsRow_nil _ _ _ _, by simp⟩, hb⟩
  | true =>
    have hok : sgOK x0 x1 x2 x3 x4 x5 x6 x7 x8 m0' z = true := by unfold sgV at hv; simp only [Bool.and_eq_true] at hv; exact hv.1.1
    obtain ⟨p0, p1, p2, p3, p4, p5, p6, p8, p3n, pS⟩ := sgOK_parts hok
    have hOl := segO_len x6 x7 x8 x9 m0' z hz p3n
    by_cases hs : 65515 < 20 + (segO x6 x7 x8 x9 m0' z).length + n1
    · have eC : sgC x0 x1 x2 x3 x4 x5 x6 x7 x8 x9 z z1 m0' s d = 7 := by unfold sgC; rw [hv, if_pos rfl, h1, if_pos hs]
      have eL : sgL x0 x1 x2 x3 x4 x5 x6 x7 x8 x9 z z1 m0' s d = [] := by unfold sgL; rw [eC]; rfl
      rw [eC, eL]
      refine (implEncS_size x0 x1 x2 x3 x4 x5 x6 x7 x8 x9 a0 m0' c0 a1 n1 c1 s d z z1 W hz ha m0 h1 ha1 m1 hv _ rfl hOl hs he).mono ?_
      rintro e w' ⟨rfl, hb⟩
      exact ⟨_, rfl, ⟨World.ownsRow_nil _ _ _ _, by simp⟩, hb⟩
    · have eC : sgC x0 x1 x2 x3 x4 x5 x6 x7 x8 x9 z z1 m0' s d = 0 := by unfold sgC; rw [hv, if_pos rfl, h1, if_neg hs]
      have eL : sgL x0 x1 x2 x3 x4 x5 x6 x7 x8 x9 z z1 m0' s d = sgW x0 x1 x2 x3 x4 x5 (segO x6 x7 x8 x9 m0' z) z1 s d := by unfold sgL; rw [eC, if_pos rfl]
      rw [eC, eL]
      exact implEncS_ok x0 x1 x2 x3 x4 x5 x6 x7 x8 x9 a0 m0' c0 a1 n1 c1 s d z z1 W hz ha m0 h1 ha1 m1 hv _ rfl hOl (by omega)
theorem sgL_len (x0 x1 x2 x3 x4 x5 x6 : Int) (x7 : Bool) (x8 : Int) (x9 : Bool) (z z1 : List Int) (n0 : Nat) (s d : Int) : (sgL x0 x1 x2 x3 x4 x5 x6 x7 x8 x9 z z1 n0 s d).length ≤ 1048576 := by
  unfold sgL
  split
  · rename_i h
    unfold sgC at h
    split at h
    · split at h
      · cases h
      · unfold sgW; simp only [List.length_set]; rw [sgB_len]; omega
    · cases h
  · simp
end Go.Proofs.YthcmgnhfgplajaaDoor
