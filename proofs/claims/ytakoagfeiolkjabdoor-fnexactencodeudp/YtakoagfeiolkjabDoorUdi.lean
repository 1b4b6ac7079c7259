/-
Contracts of functions of this seat.
-/
import Derived.Test.YtakoagfeiolkjabDoorRows
import Derived.WalkKit
import Derived.ProofKit
import Derived.OpenShut
import Derived.Test.YtakoagfeiolkjabDoorUde
namespace Go.Proofs.YtakoagfeiolkjabDoor
open Go.ChangeShapes Go.WideShapes Go.ChangeAt Go.RowKit
set_option linter.unusedVariables false
set_option maxRecDepth 100000
theorem splice_bdu (xs cs : List Int) (p : Nat) (h : ∀ z ∈ xs, 0 ≤ z ∧ z ≤ 255) (k : ∀ z ∈ cs, 0 ≤ z ∧ z ≤ 255) : ∀ z ∈ splice xs p cs, 0 ≤ z ∧ z ≤ 255 := by
  intro z hz
  unfold splice at hz
  simp only [List.mem_append] at hz
  rcases hz with hz | hz | hz
  · exact h z (List.mem_of_mem_take hz)
  · exact k z hz
  · exact h z (List.mem_of_mem_drop hz)
theorem HoldV.onlyu {w w' : World} {H T : Nat} {S : List Nat} {vs : Array Value} (h : HoldV w H vs T) (k : Only S w w') (hn : H ∉ S) : HoldV w' H vs T := (k.block H h.lt hn).trans h
/-- The datagram's box and the cursor's, laid. -/
abbrev encUW (w : World) (p q : Int) (v : Value) : World := (w.alloc (.cells #[.int .i64 p, .int .i64 q, v] 36)).alloc (.cells #[.slice none 0 0, .int .i64 0, .nilIface] 69)
theorem encUW_facts (w : World) (p q : Int) (v : Value) : Below w.heap.size w (encUW w p q v) ∧ HoldV (encUW w p q v) w.heap.size #[.int .i64 p, .int .i64 q, v] 36 ∧ Cur (encUW w p q v) (w.heap.size + 1) (.slice none 0 0) 0 .nilIface := by
  obtain ⟨h1, h2, h3⟩ := two_allocs w (.cells #[.int .i64 p, .int .i64 q, v] 36) (.cells #[.slice none 0 0, .int .i64 0, .nilIface] 69)
  exact ⟨h1, h2, h3⟩
theorem splice_at6 (xs : List Int) (s : Int) (h : 8 ≤ xs.length) (h0 : 0 ≤ s) (h1 : s ≤ 65535) : splice xs 6 (putL s 2) = (xs.set 6 (s / 256)).set 7 (s % 256) := by
  have e2 : putL s 2 = [s / 256, s % 256] := by
    unfold putL byteOf
    simp [List.range_succ]
    omega
  rw [e2]
  have q1 := splice_set xs 7 [] (s % 256) (by omega)
  have q2 := splice_set xs 6 [s % 256] (s / 256) (by omega)
  have e : splice xs (7 + 1) [] = xs := by unfold splice; simp
  rw [e] at q1
  rw [← q2, ← q1, List.set_comm _ _ (by omega)]
set_option maxHeartbeats 8000000 in
theorem implEncU_ok (p q s d : Int) (a : Option Addr) (n cap : Nat) (z : List Int) (w : World) (h : udOK p q s d = true) (hn : n ≤ 65507) (hz : z.length = n) (ha : Arr w a z) :
    Calls Tryd.prog 32 #[.agg #[.int .i64 p, .int .i64 q, .slice a n cap], .int .i64 s, .int .i64 d] w fun e w' => ∃ v : Value, e = .returned (.tuple #[v, .int .i64 0]) ∧ OwnB w' w.heap.size v (udT p q s d z) ∧ Below w.heap.size w w' := by
  have HF := hide (encUW_facts w p q (.slice a n cap))
  obtain ⟨h0, h1, h2, h3⟩ := udOK_parts h
  have hn' : (n : Int) ≤ 65507 := by omega
  have e8 : IntKind.i64.wrap (8 + (n : Int)) = ((8 + n : Nat) : Int) := by rw [IntKind.wrap_i64]; omega
  generalize hN : 8 + n = N at *
  have hNb : N ≤ 65515 := by omega
  have hN8 : 8 ≤ N := by omega
  have HNN := hide hN
  have HA := hide ha
  have HZ := hide hz
  have HT : Hid (splice (udH p q z) 6 (putL (udW (fsum s d 17 (udH p q z))) 2) = udT p q s d z) := hide (by
    have hb := udW_bd (fsum_bd s d 17 _ (udH_bd p q z ha.1))
    rw [splice_at6 _ _ (by rw [udH_len]; omega) hb.1 hb.2]
    rfl)
  have HBD : Hid (∀ x ∈ splice (udH p q z) 6 (putL (udW (fsum s d 17 (udH p q z))) 2), 0 ≤ x ∧ x ≤ 255) := hide (splice_bdu _ _ _ (udH_bd p q z ha.1) (fun x hx => putL_bd _ _ x hx))
  have HHB := hide (udH_bd p q z ha.1)
  have HHL : Hid ((udH p q z).length = N) := hide (by rw [udH_len]; omega)
  have HHU : Hid ([] ++ putL p 2 ++ putL q 2 ++ putL ((N : Nat) : Int) 2 ++ [0, 0] ++ z = udH p q z) := hide (by unfold udH; rw [List.nil_append, hz, show ((N : Nat) : Int) = 8 + (n : Int) by omega])
  generalize udT p q s d z = TT at *
  generalize udH p q z = D at *
  clear h hz ha hN
  obtain ⟨_, hh, hc0⟩ := HF.out
  have k0 := hh.cell 0 _ rfl
  have k1 := hh.cell 1 _ rfl
  have k2 := hh.cell 2 _ rfl
  clear hh hc0
  go_enter Tryd.func32, Tryd.ntmps32
  go_wp2_with (first | (go_at_call 65; refine (isPort_walk _ _).mono ?_; rintro e w' ⟨rfl, rfl⟩) | (go_at_call 50; refine (isAddr_walk _ _).mono ?_; rintro e w' ⟨rfl, rfl⟩))
  generalize hW : encUW w p q (.slice a n cap) = W at *
  unfold encUW at hW
  rw [hW]
  clear hW
  refine (demand_yes (w.heap.size + 1) 0 (.slice none 0 0) _ _ HF.out.2.2).mono ?_
  rintro e w2 ⟨rfl, hw2⟩
  rw [hw2]
  clear hw2
  go_wp2_with fail
  refine (demand_yes (w.heap.size + 1) 0 (.slice none 0 0) _ _ HF.out.2.2).mono ?_
  rintro e w2 ⟨rfl, hw2⟩
  rw [hw2]
  clear hw2 h0 h1 h2 h3
  have CM := hide (makeRoom_ok (w.heap.size + 1) 0 (.slice none 0 0) N W HF.out.2.2 (by omega))
  go_wp2_with fail
  refine CM.out.mono ?_
  rintro e w0 ⟨rfl, hc, hr, hgr⟩
  have hWs := HF.out.2.2.lt
  have HC0 := hide hc
  have HR0 : Hid (RowB w0 W.heap.size ([] ++ List.replicate N 0)) := hide hr
  have HH0 := hide (HF.out.2.1.onlyu (Only.of_some hgr) (by simp))
  have HB0 := hide (HF.out.1.grown hgr HF.out.1.size (fun k hk => by cases hk; omega))
  clear CM hc hr hgr HF k0 k1 k2
  generalize hG : W.heap.size = G at *
  clear hG
  generalize hgg : w.heap.size + 1 = g at *
  have hg : g < G := hWs
  have HGB : Hid (w.heap.size < g) := hide (by omega)
  have HNE : Hid (w.heap.size ∉ [g, G]) := hide (by simp; omega)
  have HO0 : Hid (Only [g, G] w0 w0) := hide (Only.refl _ _)
  clear hgg hWs
  have C := hide (put_on2 g G N 0 N p ([]) _ HC0.out HR0.out hg rfl (by omega) (by omega) (by omega))
  have k0 := HH0.out.cell 0 _ rfl
  have k1 := HH0.out.cell 1 _ rfl
  have k2 := HH0.out.cell 2 _ rfl
  go_wp2_with fail
  refine C.out.mono ?_
  rintro e w1 ⟨rfl, hc, hr, ho⟩
  have HC1 : Hid (Cur w1 g (.slice (some ⟨G, 0, none⟩) N N) 2 .nilIface) := hide hc
  have HR1 := hide hr
  have HH1 := hide (HH0.out.onlyu ho HNE.out)
  have HO1 := hide (HO0.out.trans ho)
  clear C hc hr ho k0 k1 k2 HC0 HR0 HH0 HO0
  have C := hide (put_on2 g G N 2 (N - 2) q ([] ++ putL p 2) _ HC1.out HR1.out hg (by simp [putL_len]) (by omega) (by omega) (by omega))
  have k0 := HH1.out.cell 0 _ rfl
  have k1 := HH1.out.cell 1 _ rfl
  have k2 := HH1.out.cell 2 _ rfl
  go_wp2_with fail
  refine C.out.mono ?_
  rintro e w2 ⟨rfl, hc, hr, ho⟩
  have HC2 : Hid (Cur w2 g (.slice (some ⟨G, 0, none⟩) N N) 4 .nilIface) := hide hc
  have HR2 := hide hr
  have HH2 := hide (HH1.out.onlyu ho HNE.out)
  have HO2 := hide (HO1.out.trans ho)
  clear C hc hr ho k0 k1 k2 HC1 HR1 HH1 HO1
  have C := hide (put_on2 g G N 4 (N - 2 - 2) (N : Int) ([] ++ putL p 2 ++ putL q 2) _ HC2.out HR2.out hg (by simp [putL_len]) (by omega) (by omega) (by omega))
  obtain ⟨c0, c1, c2, cf⟩ := HC2.out.cells
  go_wp2_with fail
  refine C.out.mono ?_
  rintro e w3 ⟨rfl, hc, hr, ho⟩
  have HC3 : Hid (Cur w3 g (.slice (some ⟨G, 0, none⟩) N N) 6 .nilIface) := hide hc
  have HR3 := hide hr
  have HH3 := hide (HH2.out.onlyu ho HNE.out)
  have HO3 := hide (HO2.out.trans ho)
  clear C hc hr ho c0 c1 c2 cf HC2 HR2 HH2 HO2
  have C := hide (pass_on2 g G N 6 w3 HC3.out (by omega) (by omega))
  go_wp2_with fail
  refine C.out.mono ?_
  rintro e w4 ⟨rfl, hc, ho⟩
  have HC4 : Hid (Cur w4 g (.slice (some ⟨G, 0, none⟩) N N) 8 .nilIface) := hide hc
  have hr := HR3.out.kept ho (by intro e; cases e; omega)
  rw [rep_two _ _ (by omega)] at hr
  have HR4 := hide hr
  have ho2 : Only [g, G] w3 w4 := (Only.of_some ho).mono (by simp)
  have HH4 := hide (HH3.out.onlyu ho2 HNE.out)
  have HO4 := hide (HO3.out.trans ho2)
  clear C hc hr ho ho2 HC3 HR3 HH3 HO3
  have HA4 := hide (arr_only (HA.out.below HB0.out (Nat.le_refl _)) HO4.out (fun j hj => by obtain ⟨b, off, e, hlt, _⟩ := HA.out.2 j hj; exact ⟨b, off, e, by have := HGB.out; simp; omega⟩))
  have HAG : Hid (∀ j, j < z.length → ∃ b off, a = some ⟨b, off, none⟩ ∧ b < g) := hide (fun j hj => by obtain ⟨b, off, e, hlt, _⟩ := HA.out.2 j hj; exact ⟨b, off, e, by have := HGB.out; omega⟩)
  have C := hide (putBytes_onl g G N 8 (N - 2 - 2 - 2 - 2) n cap a ([] ++ putL p 2 ++ putL q 2 ++ putL (N : Int) 2 ++ [0, 0]) z w4 HC4.out HR4.out hg (by simp [putL_len]) (by omega) (by omega) (by have := HNN.out; omega) HZ.out HA4.out HAG.out)
  have k0 := HH4.out.cell 0 _ rfl
  have k1 := HH4.out.cell 1 _ rfl
  have k2 := HH4.out.cell 2 _ rfl
  go_wp2_with fail
  refine C.out.mono ?_
  rintro e w5 ⟨rfl, hc, hr, ho⟩
  have HC5 : Hid (Cur w5 g (.slice (some ⟨G, 0, none⟩) N N) N .nilIface) := hide (by rw [HNN.out] at hc; exact hc)
  have HR5 : Hid (RowB w5 G D) := hide (by
    have e : N - 2 - 2 - 2 - 2 - n = 0 := by have := HNN.out; omega
    rw [e, List.replicate_zero, List.append_nil, HHU.out] at hr
    exact hr)
  have HO5 := hide (HO4.out.trans ho)
  clear C hc hr ho k0 k1 k2 HC4 HR4 HH4 HO4 HA4 HAG HHU
  have CP := hide (passed_walk g N N N G 0 .nilIface w5 HC5.out (Nat.le_refl _) (by omega))
  go_wp2_with fail
  refine CP.out.mono ?_
  rintro e wa ⟨rfl, m, rfl⟩
  have CK := hide (sumFH_walk (some ⟨G, 0, none⟩) N N s d 17 D (w5.drewN m) HHL.out (HR5.out.arr HHB.out) (by omega))
  clear CP
  generalize fsum s d 17 D = S at *
  go_wp2_with fail
  refine CK.out.mono ?_
  rintro e wb ⟨rfl, hbk⟩
  have hb2 : Below w5.heap.size w5 wb := ⟨hbk.os, hbk.tape, hbk.output, hbk.size, hbk.block⟩
  have HC6 := hide (HC5.out.below hb2 HC5.out.lt)
  have HR6 := hide (HR5.out.below hb2 HR5.out.lt)
  have HO6 := hide (HO5.out.trans (Only.of_below hb2))
  clear CK hbk hb2 HC5 HR5 HO5
  have CW := hide (fun W => writtenSum_walk S W)
  generalize udW S = U at *
  go_wp2_with fail
  refine (CW.out _).mono ?_
  rintro e wc ⟨rfl, hwc⟩
  rw [hwc]
  clear hwc CW
  have CN := hide (putNumber_at G 6 2 (N - 6) U _ wb (by omega) HR6.out (by rw [HHL.out]; omega))
  go_wp2_with fail
  refine CN.out.mono ?_
  rintro e wd ⟨rfl, hr, hgc⟩
  have HC7 := hide (HC6.out.kept hgc (by intro e; cases e; omega))
  have HR7 : Hid (RowB wd G TT) := hide (by rw [← HT.out]; exact hr)
  have HO7 := hide (HO6.out.trans ((Only.of_some hgc).mono (by simp)))
  clear CN hr hgc HC6 HR6 HO6
  have HB7 : Hid (Below w.heap.size w wd) := hide (HB0.out.trans (Only.below HO7.out (by intro b hb; have := HGB.out; simp at hb; omega) HB0.out.size))
  have HL7 : Hid (TT.length = N) := hide (by rw [← HT.out]; unfold splice; have := HHL.out; simp [putL_len]; omega)
  have ho := HR7.out.own (B := w.heap.size) (by have := HGB.out; omega) (by rw [← HT.out]; exact HBD.out) (by rw [HL7.out]; omega)
  rw [HL7.out] at ho
  have HW7 := hide ho
  clear ho
  have HW8 := hide (HW7.out.drew)
  have HB8 := hide (HB7.out.drew)
  obtain ⟨c0, c1, c2, cf⟩ := HC7.out.cells
  have HC8 : Hid (Cur wd.drew g (.slice (some ⟨G, 0, none⟩) N N) N .nilIface) := hide HC7.out
  clear HW7 HB7 HR7
  go_wp2_with fail
  go_region_held3 (fun w' => w'.cell? ⟨g, 0, none⟩ = some (.slice (some ⟨G, 0, none⟩) N N) ∧ w'.cell? ⟨g, 2, none⟩ = some .nilIface) (first | with_reducible assumption | exact ⟨HC8.out.cells.1, HC8.out.cells.2.2.1⟩ | exact ⟨(HC8.out.below hb8 HC8.out.lt).cells.1, (HC8.out.below hb8 HC8.out.lt).cells.2.2.1⟩)
    ((go_at_call 45; refine (ansB_nil _ _ _ _).mono ?_; rintro e w8 ⟨rfl, hb8⟩))
  all_goals
    have HO8 := hide (HW8.out.next hb8)
    have HB9 := hide (HB8.out.trans (hb8.mono HB8.out.size))
    clear hb8
    go_wp2_with fail
    go_ret2
    exact ⟨_, rfl, HO8.out, HB9.out⟩

set_option maxHeartbeats 8000000 in
theorem implEncU_f1 (p q s d : Int) (a : Option Addr) (n cap : Nat) (w : World) (h0 : inB p 0 65535 = false) (hm : n ≤ 1048576) (he : ErrT w) :
    Calls Tryd.prog 32 #[.agg #[.int .i64 p, .int .i64 q, .slice a n cap], .int .i64 s, .int .i64 d] w fun e w' => e = .returned (.tuple #[.slice none 0 0, .int .i64 1]) ∧ Below w.heap.size w w' := by
  have HF := hide (encUW_facts w p q (.slice a n cap))
  have HE := hide he
  have e8 : IntKind.i64.wrap (8 + (n : Int)) = 8 + (n : Int) := by rw [IntKind.wrap_i64]; omega
  have _t : True := trivial
  clear he
  obtain ⟨_, hh, hc0⟩ := HF.out
  have k0 := hh.cell 0 _ rfl
  have k1 := hh.cell 1 _ rfl
  have k2 := hh.cell 2 _ rfl
  clear hh hc0
  go_enter Tryd.func32, Tryd.ntmps32
  go_wp2_with (first | (go_at_call 65; refine (isPort_walk _ _).mono ?_; rintro e w' ⟨rfl, rfl⟩) | (go_at_call 50; refine (isAddr_walk _ _).mono ?_; rintro e w' ⟨rfl, rfl⟩))
  generalize hW : encUW w p q (.slice a n cap) = W at *
  unfold encUW at hW
  rw [hW]
  clear hW
  refine (demand_no (w.heap.size + 1) 0 (.slice none 0 0) _ _ HF.out.2.2).mono ?_
  rintro e w2 ⟨rfl, hc, hgr⟩
  have HC2 := hide hc
  have HH2 := hide (HF.out.2.1.onlyu (Only.of_some hgr) (by simp))
  have HB2 := hide (HF.out.1.grown hgr HF.out.1.size (fun k hk => by cases hk; omega))
  clear hc hgr k0 k1 k2 HF
  have k0 := HH2.out.cell 0 _ rfl
  have k1 := HH2.out.cell 1 _ rfl
  have k2 := HH2.out.cell 2 _ rfl
  go_wp2_with fail
  refine (demand_err (w.heap.size + 1) 0 _ _ _ _ _ HC2.out).mono ?_
  rintro e w3 ⟨rfl, hw3⟩
  rw [hw3]
  clear hw3
  generalize w.heap.size + 1 = g at *
  go_wp2_with fail
  refine (makeRoom_err g 0 _ 1 _ _ HC2.out).mono ?_
  rintro e w3 ⟨rfl, hw3⟩
  rw [hw3]
  clear hw3
  go_wp2_with fail
  refine (put_err g 0 0 0 none 1 _ 2 _ (show Cur w2 _ _ _ _ from HC2.out) (by omega) (by omega) (by omega) (by omega)).mono ?_
  rintro e v0 ⟨rfl, m0, rfl⟩
  clear k0 k1 k2
  have k0 := (show HoldV (w2.drewN m0) _ _ _ from HH2.out).cell 0 _ rfl
  have k1 := (show HoldV (w2.drewN m0) _ _ _ from HH2.out).cell 1 _ rfl
  have k2 := (show HoldV (w2.drewN m0) _ _ _ from HH2.out).cell 2 _ rfl
  go_wp2_with fail
  refine (put_err g 0 0 0 none 1 _ 2 _ (show Cur (w2.drewN m0) _ _ _ _ from HC2.out) (by omega) (by omega) (by omega) (by omega)).mono ?_
  rintro e v1 ⟨rfl, m1, rfl⟩
  clear k0 k1 k2
  obtain ⟨c0, c1, c2, cf⟩ := (show Cur (w2.drewN (m0 + m1)) _ _ _ _ from HC2.out).cells
  go_wp2_with fail
  refine (put_err g 0 0 0 none 1 _ 2 _ (show Cur (w2.drewN (m0 + m1)) _ _ _ _ from HC2.out) (by omega) (by omega) (by omega) (by omega)).mono ?_
  rintro e v2 ⟨rfl, m2, rfl⟩
  clear c0 c1 c2 cf
  go_wp2_with fail
  refine (pass_err g 0 0 0 none 1 2 _ (show Cur (w2.drewN (m0 + m1 + m2)) _ _ _ _ from HC2.out) (by omega) (by omega) (by omega) (by omega)).mono ?_
  rintro e v3 ⟨rfl, m3, rfl⟩
  have k0 := (show HoldV (w2.drewN (m0 + m1 + m2 + m3)) _ _ _ from HH2.out).cell 0 _ rfl
  have k1 := (show HoldV (w2.drewN (m0 + m1 + m2 + m3)) _ _ _ from HH2.out).cell 1 _ rfl
  have k2 := (show HoldV (w2.drewN (m0 + m1 + m2 + m3)) _ _ _ from HH2.out).cell 2 _ rfl
  go_wp2_with fail
  refine (putBytes_err g 0 0 0 n cap none a 1 _ (show Cur (w2.drewN (m0 + m1 + m2 + m3)) _ _ _ _ from HC2.out) (by omega) (by omega) (by omega)).mono ?_
  rintro e v ⟨rfl, mb, rfl⟩
  clear k0 k1 k2
  go_wp2_with fail
  refine (passed_none g (wErr 1) _ (show Cur (w2.drewN (m0 + m1 + m2 + m3 + mb)) _ _ _ _ from HC2.out)).mono ?_
  rintro e v ⟨rfl, mp, rfl⟩
  have CK := hide (fun W => sumFH_walk none 0 0 s d 17 [] W rfl ⟨by simp, fun j hj => by simp at hj⟩ (by omega))
  go_wp2_with fail
  refine (CK.out _).mono ?_
  rintro e wb ⟨rfl, hbk⟩
  have hb2 : Below w2.heap.size w2 wb := ⟨hbk.os, hbk.tape, hbk.output, hbk.size, hbk.block⟩
  have HC3 := hide (HC2.out.below hb2 HC2.out.lt)
  have HB3 := hide (HB2.out.trans (hb2.mono HB2.out.size))
  clear hbk hb2 CK HC2 HB2 HH2
  go_wp2_with fail
  refine (writtenSum_walk _ _).mono ?_
  rintro e v ⟨rfl, rfl⟩
  go_wp2_with fail
  refine (putNumber_none _ _).mono ?_
  rintro e v ⟨rfl, rfl⟩
  obtain ⟨c0, c1, c2, cf⟩ := HC3.out.cells
  have HC7 : Hid (Cur v.drew g (.slice none 0 0) 0 (wErr 1)) := hide HC3.out
  have HB7 := hide HB3.out.drew
  have HE7 := hide (HE.out.below HB7.out (Nat.le_refl _))
  have CA := hide (ansB_err none 0 0 1 (by decide) _ HE7.out)
  clear HE HE7 HB3 HC3 c0 c1 c2 cf
  go_wp2_with fail
  go_region_held3 (fun w' => w'.cell? ⟨g, 0, none⟩ = some (.slice none 0 0) ∧ w'.cell? ⟨g, 2, none⟩ = some (wErr 1)) (first | with_reducible assumption | exact ⟨HC7.out.cells.1, HC7.out.cells.2.2.1⟩ | exact ⟨(HC7.out.below hb8 HC7.out.lt).cells.1, (HC7.out.below hb8 HC7.out.lt).cells.2.2.1⟩)
    ((go_at_call 45; refine CA.out.mono ?_; rintro e w8 ⟨rfl, hb8⟩))
  all_goals
    have HB8 := hide (HB7.out.trans (hb8.mono HB7.out.size))
    clear hb8
    go_wp2_with fail
    go_ret2
    exact ⟨rfl, HB8.out⟩
set_option maxHeartbeats 8000000 in
theorem implEncU_f2 (p q s d : Int) (a : Option Addr) (n cap : Nat) (w : World) (h0 : inB p 0 65535 = true) (h1 : inB q 0 65535 = false) (hm : n ≤ 1048576) (he : ErrT w) :
    Calls Tryd.prog 32 #[.agg #[.int .i64 p, .int .i64 q, .slice a n cap], .int .i64 s, .int .i64 d] w fun e w' => e = .returned (.tuple #[.slice none 0 0, .int .i64 1]) ∧ Below w.heap.size w w' := by
  have HF := hide (encUW_facts w p q (.slice a n cap))
  have HE := hide he
  have e8 : IntKind.i64.wrap (8 + (n : Int)) = 8 + (n : Int) := by rw [IntKind.wrap_i64]; omega
  have _t : True := trivial
  clear he
  obtain ⟨_, hh, hc0⟩ := HF.out
  have k0 := hh.cell 0 _ rfl
  have k1 := hh.cell 1 _ rfl
  have k2 := hh.cell 2 _ rfl
  clear hh hc0
  go_enter Tryd.func32, Tryd.ntmps32
  go_wp2_with (first | (go_at_call 65; refine (isPort_walk _ _).mono ?_; rintro e w' ⟨rfl, rfl⟩) | (go_at_call 50; refine (isAddr_walk _ _).mono ?_; rintro e w' ⟨rfl, rfl⟩))
  generalize hW : encUW w p q (.slice a n cap) = W at *
  unfold encUW at hW
  rw [hW]
  clear hW
  refine (demand_no (w.heap.size + 1) 0 (.slice none 0 0) _ _ HF.out.2.2).mono ?_
  rintro e w2 ⟨rfl, hc, hgr⟩
  have HC2 := hide hc
  have HH2 := hide (HF.out.2.1.onlyu (Only.of_some hgr) (by simp))
  have HB2 := hide (HF.out.1.grown hgr HF.out.1.size (fun k hk => by cases hk; omega))
  clear hc hgr k0 k1 k2 HF
  have k0 := HH2.out.cell 0 _ rfl
  have k1 := HH2.out.cell 1 _ rfl
  have k2 := HH2.out.cell 2 _ rfl
  go_wp2_with fail
  refine (demand_err (w.heap.size + 1) 0 _ _ _ _ _ HC2.out).mono ?_
  rintro e w3 ⟨rfl, hw3⟩
  rw [hw3]
  clear hw3
  generalize w.heap.size + 1 = g at *
  go_wp2_with fail
  refine (makeRoom_err g 0 _ 1 _ _ HC2.out).mono ?_
  rintro e w3 ⟨rfl, hw3⟩
  rw [hw3]
  clear hw3
  go_wp2_with fail
  refine (put_err g 0 0 0 none 1 _ 2 _ (show Cur w2 _ _ _ _ from HC2.out) (by omega) (by omega) (by omega) (by omega)).mono ?_
  rintro e v0 ⟨rfl, m0, rfl⟩
  clear k0 k1 k2
  have k0 := (show HoldV (w2.drewN m0) _ _ _ from HH2.out).cell 0 _ rfl
  have k1 := (show HoldV (w2.drewN m0) _ _ _ from HH2.out).cell 1 _ rfl
  have k2 := (show HoldV (w2.drewN m0) _ _ _ from HH2.out).cell 2 _ rfl
  go_wp2_with fail
  refine (put_err g 0 0 0 none 1 _ 2 _ (show Cur (w2.drewN m0) _ _ _ _ from HC2.out) (by omega) (by omega) (by omega) (by omega)).mono ?_
  rintro e v1 ⟨rfl, m1, rfl⟩
  clear k0 k1 k2
  obtain ⟨c0, c1, c2, cf⟩ := (show Cur (w2.drewN (m0 + m1)) _ _ _ _ from HC2.out).cells
  go_wp2_with fail
  refine (put_err g 0 0 0 none 1 _ 2 _ (show Cur (w2.drewN (m0 + m1)) _ _ _ _ from HC2.out) (by omega) (by omega) (by omega) (by omega)).mono ?_
  rintro e v2 ⟨rfl, m2, rfl⟩
  clear c0 c1 c2 cf
  go_wp2_with fail
  refine (pass_err g 0 0 0 none 1 2 _ (show Cur (w2.drewN (m0 + m1 + m2)) _ _ _ _ from HC2.out) (by omega) (by omega) (by omega) (by omega)).mono ?_
  rintro e v3 ⟨rfl, m3, rfl⟩
  have k0 := (show HoldV (w2.drewN (m0 + m1 + m2 + m3)) _ _ _ from HH2.out).cell 0 _ rfl
  have k1 := (show HoldV (w2.drewN (m0 + m1 + m2 + m3)) _ _ _ from HH2.out).cell 1 _ rfl
  have k2 := (show HoldV (w2.drewN (m0 + m1 + m2 + m3)) _ _ _ from HH2.out).cell 2 _ rfl
  go_wp2_with fail
  refine (putBytes_err g 0 0 0 n cap none a 1 _ (show Cur (w2.drewN (m0 + m1 + m2 + m3)) _ _ _ _ from HC2.out) (by omega) (by omega) (by omega)).mono ?_
  rintro e v ⟨rfl, mb, rfl⟩
  clear k0 k1 k2
  go_wp2_with fail
  refine (passed_none g (wErr 1) _ (show Cur (w2.drewN (m0 + m1 + m2 + m3 + mb)) _ _ _ _ from HC2.out)).mono ?_
  rintro e v ⟨rfl, mp, rfl⟩
  have CK := hide (fun W => sumFH_walk none 0 0 s d 17 [] W rfl ⟨by simp, fun j hj => by simp at hj⟩ (by omega))
  go_wp2_with fail
  refine (CK.out _).mono ?_
  rintro e wb ⟨rfl, hbk⟩
  have hb2 : Below w2.heap.size w2 wb := ⟨hbk.os, hbk.tape, hbk.output, hbk.size, hbk.block⟩
  have HC3 := hide (HC2.out.below hb2 HC2.out.lt)
  have HB3 := hide (HB2.out.trans (hb2.mono HB2.out.size))
  clear hbk hb2 CK HC2 HB2 HH2
  go_wp2_with fail
  refine (writtenSum_walk _ _).mono ?_
  rintro e v ⟨rfl, rfl⟩
  go_wp2_with fail
  refine (putNumber_none _ _).mono ?_
  rintro e v ⟨rfl, rfl⟩
  obtain ⟨c0, c1, c2, cf⟩ := HC3.out.cells
  have HC7 : Hid (Cur v.drew g (.slice none 0 0) 0 (wErr 1)) := hide HC3.out
  have HB7 := hide HB3.out.drew
  have HE7 := hide (HE.out.below HB7.out (Nat.le_refl _))
  have CA := hide (ansB_err none 0 0 1 (by decide) _ HE7.out)
  clear HE HE7 HB3 HC3 c0 c1 c2 cf
  go_wp2_with fail
  go_region_held3 (fun w' => w'.cell? ⟨g, 0, none⟩ = some (.slice none 0 0) ∧ w'.cell? ⟨g, 2, none⟩ = some (wErr 1)) (first | with_reducible assumption | exact ⟨HC7.out.cells.1, HC7.out.cells.2.2.1⟩ | exact ⟨(HC7.out.below hb8 HC7.out.lt).cells.1, (HC7.out.below hb8 HC7.out.lt).cells.2.2.1⟩)
    ((go_at_call 45; refine CA.out.mono ?_; rintro e w8 ⟨rfl, hb8⟩))
  all_goals
    have HB8 := hide (HB7.out.trans (hb8.mono HB7.out.size))
    clear hb8
    go_wp2_with fail
    go_ret2
    exact ⟨rfl, HB8.out⟩
set_option maxHeartbeats 8000000 in
theorem implEncU_f3 (p q s d : Int) (a : Option Addr) (n cap : Nat) (w : World) (h0 : inB p 0 65535 = true) (h1 : inB q 0 65535 = true) (h2 : adrB s = false) (hm : n ≤ 1048576) (he : ErrT w) :
    Calls Tryd.prog 32 #[.agg #[.int .i64 p, .int .i64 q, .slice a n cap], .int .i64 s, .int .i64 d] w fun e w' => e = .returned (.tuple #[.slice none 0 0, .int .i64 1]) ∧ Below w.heap.size w w' := by
  have HF := hide (encUW_facts w p q (.slice a n cap))
  have HE := hide he
  have e8 : IntKind.i64.wrap (8 + (n : Int)) = 8 + (n : Int) := by rw [IntKind.wrap_i64]; omega
  have _t : True := trivial
  clear he
  obtain ⟨_, hh, hc0⟩ := HF.out
  have k0 := hh.cell 0 _ rfl
  have k1 := hh.cell 1 _ rfl
  have k2 := hh.cell 2 _ rfl
  clear hh hc0
  go_enter Tryd.func32, Tryd.ntmps32
  go_wp2_with (first | (go_at_call 65; refine (isPort_walk _ _).mono ?_; rintro e w' ⟨rfl, rfl⟩) | (go_at_call 50; refine (isAddr_walk _ _).mono ?_; rintro e w' ⟨rfl, rfl⟩))
  generalize hW : encUW w p q (.slice a n cap) = W at *
  unfold encUW at hW
  rw [hW]
  clear hW
  refine (demand_no (w.heap.size + 1) 0 (.slice none 0 0) _ _ HF.out.2.2).mono ?_
  rintro e w2 ⟨rfl, hc, hgr⟩
  have HC2 := hide hc
  have HH2 := hide (HF.out.2.1.onlyu (Only.of_some hgr) (by simp))
  have HB2 := hide (HF.out.1.grown hgr HF.out.1.size (fun k hk => by cases hk; omega))
  clear hc hgr k0 k1 k2 HF
  have k0 := HH2.out.cell 0 _ rfl
  have k1 := HH2.out.cell 1 _ rfl
  have k2 := HH2.out.cell 2 _ rfl
  go_wp2_with fail
  refine (demand_err (w.heap.size + 1) 0 _ _ _ _ _ HC2.out).mono ?_
  rintro e w3 ⟨rfl, hw3⟩
  rw [hw3]
  clear hw3
  generalize w.heap.size + 1 = g at *
  go_wp2_with fail
  refine (makeRoom_err g 0 _ 1 _ _ HC2.out).mono ?_
  rintro e w3 ⟨rfl, hw3⟩
  rw [hw3]
  clear hw3
  go_wp2_with fail
  refine (put_err g 0 0 0 none 1 _ 2 _ (show Cur w2 _ _ _ _ from HC2.out) (by omega) (by omega) (by omega) (by omega)).mono ?_
  rintro e v0 ⟨rfl, m0, rfl⟩
  clear k0 k1 k2
  have k0 := (show HoldV (w2.drewN m0) _ _ _ from HH2.out).cell 0 _ rfl
  have k1 := (show HoldV (w2.drewN m0) _ _ _ from HH2.out).cell 1 _ rfl
  have k2 := (show HoldV (w2.drewN m0) _ _ _ from HH2.out).cell 2 _ rfl
  go_wp2_with fail
  refine (put_err g 0 0 0 none 1 _ 2 _ (show Cur (w2.drewN m0) _ _ _ _ from HC2.out) (by omega) (by omega) (by omega) (by omega)).mono ?_
  rintro e v1 ⟨rfl, m1, rfl⟩
  clear k0 k1 k2
  obtain ⟨c0, c1, c2, cf⟩ := (show Cur (w2.drewN (m0 + m1)) _ _ _ _ from HC2.out).cells
  go_wp2_with fail
  refine (put_err g 0 0 0 none 1 _ 2 _ (show Cur (w2.drewN (m0 + m1)) _ _ _ _ from HC2.out) (by omega) (by omega) (by omega) (by omega)).mono ?_
  rintro e v2 ⟨rfl, m2, rfl⟩
  clear c0 c1 c2 cf
  go_wp2_with fail
  refine (pass_err g 0 0 0 none 1 2 _ (show Cur (w2.drewN (m0 + m1 + m2)) _ _ _ _ from HC2.out) (by omega) (by omega) (by omega) (by omega)).mono ?_
  rintro e v3 ⟨rfl, m3, rfl⟩
  have k0 := (show HoldV (w2.drewN (m0 + m1 + m2 + m3)) _ _ _ from HH2.out).cell 0 _ rfl
  have k1 := (show HoldV (w2.drewN (m0 + m1 + m2 + m3)) _ _ _ from HH2.out).cell 1 _ rfl
  have k2 := (show HoldV (w2.drewN (m0 + m1 + m2 + m3)) _ _ _ from HH2.out).cell 2 _ rfl
  go_wp2_with fail
  refine (putBytes_err g 0 0 0 n cap none a 1 _ (show Cur (w2.drewN (m0 + m1 + m2 + m3)) _ _ _ _ from HC2.out) (by omega) (by omega) (by omega)).mono ?_
  rintro e v ⟨rfl, mb, rfl⟩
  clear k0 k1 k2
  go_wp2_with fail
  refine (passed_none g (wErr 1) _ (show Cur (w2.drewN (m0 + m1 + m2 + m3 + mb)) _ _ _ _ from HC2.out)).mono ?_
  rintro e v ⟨rfl, mp, rfl⟩
  have CK := hide (fun W => sumFH_walk none 0 0 s d 17 [] W rfl ⟨by simp, fun j hj => by simp at hj⟩ (by omega))
  go_wp2_with fail
  refine (CK.out _).mono ?_
  rintro e wb ⟨rfl, hbk⟩
  have hb2 : Below w2.heap.size w2 wb := ⟨hbk.os, hbk.tape, hbk.output, hbk.size, hbk.block⟩
  have HC3 := hide (HC2.out.below hb2 HC2.out.lt)
  have HB3 := hide (HB2.out.trans (hb2.mono HB2.out.size))
  clear hbk hb2 CK HC2 HB2 HH2
  go_wp2_with fail
  refine (writtenSum_walk _ _).mono ?_
  rintro e v ⟨rfl, rfl⟩
  go_wp2_with fail
  refine (putNumber_none _ _).mono ?_
  rintro e v ⟨rfl, rfl⟩
  obtain ⟨c0, c1, c2, cf⟩ := HC3.out.cells
  have HC7 : Hid (Cur v.drew g (.slice none 0 0) 0 (wErr 1)) := hide HC3.out
  have HB7 := hide HB3.out.drew
  have HE7 := hide (HE.out.below HB7.out (Nat.le_refl _))
  have CA := hide (ansB_err none 0 0 1 (by decide) _ HE7.out)
  clear HE HE7 HB3 HC3 c0 c1 c2 cf
  go_wp2_with fail
  go_region_held3 (fun w' => w'.cell? ⟨g, 0, none⟩ = some (.slice none 0 0) ∧ w'.cell? ⟨g, 2, none⟩ = some (wErr 1)) (first | with_reducible assumption | exact ⟨HC7.out.cells.1, HC7.out.cells.2.2.1⟩ | exact ⟨(HC7.out.below hb8 HC7.out.lt).cells.1, (HC7.out.below hb8 HC7.out.lt).cells.2.2.1⟩)
    ((go_at_call 45; refine CA.out.mono ?_; rintro e w8 ⟨rfl, hb8⟩))
  all_goals
    have HB8 := hide (HB7.out.trans (hb8.mono HB7.out.size))
    clear hb8
    go_wp2_with fail
    go_ret2
    exact ⟨rfl, HB8.out⟩
set_option maxHeartbeats 8000000 in
theorem implEncU_f4 (p q s d : Int) (a : Option Addr) (n cap : Nat) (w : World) (h0 : inB p 0 65535 = true) (h1 : inB q 0 65535 = true) (h2 : adrB s = true) (h3 : adrB d = false) (hm : n ≤ 1048576) (he : ErrT w) :
    Calls Tryd.prog 32 #[.agg #[.int .i64 p, .int .i64 q, .slice a n cap], .int .i64 s, .int .i64 d] w fun e w' => e = .returned (.tuple #[.slice none 0 0, .int .i64 1]) ∧ Below w.heap.size w w' := by
  have HF := hide (encUW_facts w p q (.slice a n cap))
  have HE := hide he
  have e8 : IntKind.i64.wrap (8 + (n : Int)) = 8 + (n : Int) := by rw [IntKind.wrap_i64]; omega
  have _t : True := trivial
  clear he
  obtain ⟨_, hh, hc0⟩ := HF.out
  have k0 := hh.cell 0 _ rfl
  have k1 := hh.cell 1 _ rfl
  have k2 := hh.cell 2 _ rfl
  clear hh hc0
  go_enter Tryd.func32, Tryd.ntmps32
  go_wp2_with (first | (go_at_call 65; refine (isPort_walk _ _).mono ?_; rintro e w' ⟨rfl, rfl⟩) | (go_at_call 50; refine (isAddr_walk _ _).mono ?_; rintro e w' ⟨rfl, rfl⟩))
  generalize hW : encUW w p q (.slice a n cap) = W at *
  unfold encUW at hW
  rw [hW]
  clear hW
  refine (demand_no (w.heap.size + 1) 0 (.slice none 0 0) _ _ HF.out.2.2).mono ?_
  rintro e w2 ⟨rfl, hc, hgr⟩
  have HC2 := hide hc
  have HH2 := hide (HF.out.2.1.onlyu (Only.of_some hgr) (by simp))
  have HB2 := hide (HF.out.1.grown hgr HF.out.1.size (fun k hk => by cases hk; omega))
  clear hc hgr k0 k1 k2 HF
  have k0 := HH2.out.cell 0 _ rfl
  have k1 := HH2.out.cell 1 _ rfl
  have k2 := HH2.out.cell 2 _ rfl
  go_wp2_with fail
  refine (demand_err (w.heap.size + 1) 0 _ _ _ _ _ HC2.out).mono ?_
  rintro e w3 ⟨rfl, hw3⟩
  rw [hw3]
  clear hw3
  generalize w.heap.size + 1 = g at *
  go_wp2_with fail
  refine (makeRoom_err g 0 _ 1 _ _ HC2.out).mono ?_
  rintro e w3 ⟨rfl, hw3⟩
  rw [hw3]
  clear hw3
  go_wp2_with fail
  refine (put_err g 0 0 0 none 1 _ 2 _ (show Cur w2 _ _ _ _ from HC2.out) (by omega) (by omega) (by omega) (by omega)).mono ?_
  rintro e v0 ⟨rfl, m0, rfl⟩
  clear k0 k1 k2
  have k0 := (show HoldV (w2.drewN m0) _ _ _ from HH2.out).cell 0 _ rfl
  have k1 := (show HoldV (w2.drewN m0) _ _ _ from HH2.out).cell 1 _ rfl
  have k2 := (show HoldV (w2.drewN m0) _ _ _ from HH2.out).cell 2 _ rfl
  go_wp2_with fail
  refine (put_err g 0 0 0 none 1 _ 2 _ (show Cur (w2.drewN m0) _ _ _ _ from HC2.out) (by omega) (by omega) (by omega) (by omega)).mono ?_
  rintro e v1 ⟨rfl, m1, rfl⟩
  clear k0 k1 k2
  obtain ⟨c0, c1, c2, cf⟩ := (show Cur (w2.drewN (m0 + m1)) _ _ _ _ from HC2.out).cells
  go_wp2_with fail
  refine (put_err g 0 0 0 none 1 _ 2 _ (show Cur (w2.drewN (m0 + m1)) _ _ _ _ from HC2.out) (by omega) (by omega) (by omega) (by omega)).mono ?_
  rintro e v2 ⟨rfl, m2, rfl⟩
  clear c0 c1 c2 cf
  go_wp2_with fail
  refine (pass_err g 0 0 0 none 1 2 _ (show Cur (w2.drewN (m0 + m1 + m2)) _ _ _ _ from HC2.out) (by omega) (by omega) (by omega) (by omega)).mono ?_
  rintro e v3 ⟨rfl, m3, rfl⟩
  have k0 := (show HoldV (w2.drewN (m0 + m1 + m2 + m3)) _ _ _ from HH2.out).cell 0 _ rfl
  have k1 := (show HoldV (w2.drewN (m0 + m1 + m2 + m3)) _ _ _ from HH2.out).cell 1 _ rfl
  have k2 := (show HoldV (w2.drewN (m0 + m1 + m2 + m3)) _ _ _ from HH2.out).cell 2 _ rfl
  go_wp2_with fail
  refine (putBytes_err g 0 0 0 n cap none a 1 _ (show Cur (w2.drewN (m0 + m1 + m2 + m3)) _ _ _ _ from HC2.out) (by omega) (by omega) (by omega)).mono ?_
  rintro e v ⟨rfl, mb, rfl⟩
  clear k0 k1 k2
  go_wp2_with fail
  refine (passed_none g (wErr 1) _ (show Cur (w2.drewN (m0 + m1 + m2 + m3 + mb)) _ _ _ _ from HC2.out)).mono ?_
  rintro e v ⟨rfl, mp, rfl⟩
  have CK := hide (fun W => sumFH_walk none 0 0 s d 17 [] W rfl ⟨by simp, fun j hj => by simp at hj⟩ (by omega))
  go_wp2_with fail
  refine (CK.out _).mono ?_
  rintro e wb ⟨rfl, hbk⟩
  have hb2 : Below w2.heap.size w2 wb := ⟨hbk.os, hbk.tape, hbk.output, hbk.size, hbk.block⟩
  have HC3 := hide (HC2.out.below hb2 HC2.out.lt)
  have HB3 := hide (HB2.out.trans (hb2.mono HB2.out.size))
  clear hbk hb2 CK HC2 HB2 HH2
  go_wp2_with fail
  refine (writtenSum_walk _ _).mono ?_
  rintro e v ⟨rfl, rfl⟩
  go_wp2_with fail
  refine (putNumber_none _ _).mono ?_
  rintro e v ⟨rfl, rfl⟩
  obtain ⟨c0, c1, c2, cf⟩ := HC3.out.cells
  have HC7 : Hid (Cur v.drew g (.slice none 0 0) 0 (wErr 1)) := hide HC3.out
  have HB7 := hide HB3.out.drew
  have HE7 := hide (HE.out.below HB7.out (Nat.le_refl _))
  have CA := hide (ansB_err none 0 0 1 (by decide) _ HE7.out)
  clear HE HE7 HB3 HC3 c0 c1 c2 cf
  go_wp2_with fail
  go_region_held3 (fun w' => w'.cell? ⟨g, 0, none⟩ = some (.slice none 0 0) ∧ w'.cell? ⟨g, 2, none⟩ = some (wErr 1)) (first | with_reducible assumption | exact ⟨HC7.out.cells.1, HC7.out.cells.2.2.1⟩ | exact ⟨(HC7.out.below hb8 HC7.out.lt).cells.1, (HC7.out.below hb8 HC7.out.lt).cells.2.2.1⟩)
    ((go_at_call 45; refine CA.out.mono ?_; rintro e w8 ⟨rfl, hb8⟩))
  all_goals
    have HB8 := hide (HB7.out.trans (hb8.mono HB7.out.size))
    clear hb8
    go_wp2_with fail
    go_ret2
    exact ⟨rfl, HB8.out⟩
set_option maxHeartbeats 8000000 in
theorem implEncU_size (p q s d : Int) (a : Option Addr) (n cap : Nat) (w : World) (h : udOK p q s d = true) (hn : 65507 < n) (hm : n ≤ 1048576) (he : ErrT w) :
    Calls Tryd.prog 32 #[.agg #[.int .i64 p, .int .i64 q, .slice a n cap], .int .i64 s, .int .i64 d] w fun e w' => e = .returned (.tuple #[.slice none 0 0, .int .i64 7]) ∧ Below w.heap.size w w' := by
  have HF := hide (encUW_facts w p q (.slice a n cap))
  have HE := hide he
  have e8 : IntKind.i64.wrap (8 + (n : Int)) = 8 + (n : Int) := by rw [IntKind.wrap_i64]; omega
  obtain ⟨h0, h1, h2, h3⟩ := udOK_parts h
  have hn' : (65507 : Int) < (n : Int) := by omega
  clear he
  obtain ⟨_, hh, hc0⟩ := HF.out
  have k0 := hh.cell 0 _ rfl
  have k1 := hh.cell 1 _ rfl
  have k2 := hh.cell 2 _ rfl
  clear hh hc0
  go_enter Tryd.func32, Tryd.ntmps32
  go_wp2_with (first | (go_at_call 65; refine (isPort_walk _ _).mono ?_; rintro e w' ⟨rfl, rfl⟩) | (go_at_call 50; refine (isAddr_walk _ _).mono ?_; rintro e w' ⟨rfl, rfl⟩))
  generalize hW : encUW w p q (.slice a n cap) = W at *
  unfold encUW at hW
  rw [hW]
  clear hW
  refine (demand_yes (w.heap.size + 1) 0 (.slice none 0 0) _ _ HF.out.2.2).mono ?_
  rintro e w3 ⟨rfl, hw3⟩
  rw [hw3]
  clear hw3
  go_wp2_with fail
  rw [decide_eq_false (Int.not_le.2 hn')]
  refine (demand_no (w.heap.size + 1) 0 (.slice none 0 0) _ _ HF.out.2.2).mono ?_
  rintro e w2 ⟨rfl, hc, hgr⟩
  have HC2 := hide hc
  have HH2 := hide (HF.out.2.1.onlyu (Only.of_some hgr) (by simp))
  have HB2 := hide (HF.out.1.grown hgr HF.out.1.size (fun k hk => by cases hk; omega))
  clear hc hgr k0 k1 k2 HF
  have k0 := HH2.out.cell 0 _ rfl
  have k1 := HH2.out.cell 1 _ rfl
  have k2 := HH2.out.cell 2 _ rfl
  generalize w.heap.size + 1 = g at *
  go_wp2_with fail
  refine (makeRoom_err g 0 _ 7 _ _ HC2.out).mono ?_
  rintro e w3 ⟨rfl, hw3⟩
  rw [hw3]
  clear hw3
  go_wp2_with fail
  refine (put_err g 0 0 0 none 7 _ 2 _ (show Cur w2 _ _ _ _ from HC2.out) (by omega) (by omega) (by omega) (by omega)).mono ?_
  rintro e v0 ⟨rfl, m0, rfl⟩
  clear k0 k1 k2
  have k0 := (show HoldV (w2.drewN m0) _ _ _ from HH2.out).cell 0 _ rfl
  have k1 := (show HoldV (w2.drewN m0) _ _ _ from HH2.out).cell 1 _ rfl
  have k2 := (show HoldV (w2.drewN m0) _ _ _ from HH2.out).cell 2 _ rfl
  go_wp2_with fail
  refine (put_err g 0 0 0 none 7 _ 2 _ (show Cur (w2.drewN m0) _ _ _ _ from HC2.out) (by omega) (by omega) (by omega) (by omega)).mono ?_
  rintro e v1 ⟨rfl, m1, rfl⟩
  clear k0 k1 k2
  obtain ⟨c0, c1, c2, cf⟩ := (show Cur (w2.drewN (m0 + m1)) _ _ _ _ from HC2.out).cells
  go_wp2_with fail
  refine (put_err g 0 0 0 none 7 _ 2 _ (show Cur (w2.drewN (m0 + m1)) _ _ _ _ from HC2.out) (by omega) (by omega) (by omega) (by omega)).mono ?_
  rintro e v2 ⟨rfl, m2, rfl⟩
  clear c0 c1 c2 cf
  go_wp2_with fail
  refine (pass_err g 0 0 0 none 7 2 _ (show Cur (w2.drewN (m0 + m1 + m2)) _ _ _ _ from HC2.out) (by omega) (by omega) (by omega) (by omega)).mono ?_
  rintro e v3 ⟨rfl, m3, rfl⟩
  have k0 := (show HoldV (w2.drewN (m0 + m1 + m2 + m3)) _ _ _ from HH2.out).cell 0 _ rfl
  have k1 := (show HoldV (w2.drewN (m0 + m1 + m2 + m3)) _ _ _ from HH2.out).cell 1 _ rfl
  have k2 := (show HoldV (w2.drewN (m0 + m1 + m2 + m3)) _ _ _ from HH2.out).cell 2 _ rfl
  go_wp2_with fail
  refine (putBytes_err g 0 0 0 n cap none a 7 _ (show Cur (w2.drewN (m0 + m1 + m2 + m3)) _ _ _ _ from HC2.out) (by omega) (by omega) (by omega)).mono ?_
  rintro e v ⟨rfl, mb, rfl⟩
  clear k0 k1 k2
  go_wp2_with fail
  refine (passed_none g (wErr 7) _ (show Cur (w2.drewN (m0 + m1 + m2 + m3 + mb)) _ _ _ _ from HC2.out)).mono ?_
  rintro e v ⟨rfl, mp, rfl⟩
  have CK := hide (fun W => sumFH_walk none 0 0 s d 17 [] W rfl ⟨by simp, fun j hj => by simp at hj⟩ (by omega))
  go_wp2_with fail
  refine (CK.out _).mono ?_
  rintro e wb ⟨rfl, hbk⟩
  have hb2 : Below w2.heap.size w2 wb := ⟨hbk.os, hbk.tape, hbk.output, hbk.size, hbk.block⟩
  have HC3 := hide (HC2.out.below hb2 HC2.out.lt)
  have HB3 := hide (HB2.out.trans (hb2.mono HB2.out.size))
  clear hbk hb2 CK HC2 HB2 HH2
  go_wp2_with fail
  refine (writtenSum_walk _ _).mono ?_
  rintro e v ⟨rfl, rfl⟩
  go_wp2_with fail
  refine (putNumber_none _ _).mono ?_
  rintro e v ⟨rfl, rfl⟩
  obtain ⟨c0, c1, c2, cf⟩ := HC3.out.cells
  have HC7 : Hid (Cur v.drew g (.slice none 0 0) 0 (wErr 7)) := hide HC3.out
  have HB7 := hide HB3.out.drew
  have HE7 := hide (HE.out.below HB7.out (Nat.le_refl _))
  have CA := hide (ansB_err none 0 0 7 (by decide) _ HE7.out)
  clear HE HE7 HB3 HC3 c0 c1 c2 cf
  go_wp2_with fail
  go_region_held3 (fun w' => w'.cell? ⟨g, 0, none⟩ = some (.slice none 0 0) ∧ w'.cell? ⟨g, 2, none⟩ = some (wErr 7)) (first | with_reducible assumption | exact ⟨HC7.out.cells.1, HC7.out.cells.2.2.1⟩ | exact ⟨(HC7.out.below hb8 HC7.out.lt).cells.1, (HC7.out.below hb8 HC7.out.lt).cells.2.2.1⟩)
    ((go_at_call 45; refine CA.out.mono ?_; rintro e w8 ⟨rfl, hb8⟩))
  all_goals
    have HB8 := hide (HB7.out.trans (hb8.mono HB7.out.size))
    clear hb8
    go_wp2_with fail
    go_ret2
    exact ⟨rfl, HB8.out⟩
theorem implEncU_form (p q s d : Int) (a : Option Addr) (n cap : Nat) (w : World) (h : udOK p q s d = false) (hm : n ≤ 1048576) (he : ErrT w) :
    Calls Tryd.prog 32 #[.agg #[.int .i64 p, .int .i64 q, .slice a n cap], .int .i64 s, .int .i64 d] w fun e w' => e = .returned (.tuple #[.slice none 0 0, .int .i64 1]) ∧ Below w.heap.size w w' := by
  cases h0 : inB p 0 65535 with
  | false => exact implEncU_f1 p q s d a n cap w h0 hm he
  | true =>
    cases h1 : inB q 0 65535 with
    | false => exact implEncU_f2 p q s d a n cap w h0 h1 hm he
    | true =>
      cases h2 : adrB s with
      | false => exact implEncU_f3 p q s d a n cap w h0 h1 h2 hm he
      | true => exact implEncU_f4 p q s d a n cap w h0 h1 h2 (by unfold udOK at h; rw [h0, h1, h2] at h; simpa using h) hm he
end Go.Proofs.YtakoagfeiolkjabDoor
