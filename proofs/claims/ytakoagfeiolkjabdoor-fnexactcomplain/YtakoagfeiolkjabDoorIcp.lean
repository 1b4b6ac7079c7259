/-
Contracts of functions of this seat.
-/
import Derived.Test.YtakoagfeiolkjabDoorRows
import Derived.WalkKit
import Derived.ProofKit
import Derived.OpenShut
import Derived.Test.YtakoagfeiolkjabDoorMsg
import Derived.Test.YtakoagfeiolkjabDoorIpp
namespace Go.Proofs.YtakoagfeiolkjabDoor
open Go.ChangeShapes Go.WideShapes Go.ChangeAt Go.RowKit
set_option linter.unusedVariables false
set_option maxRecDepth 100000
theorem HoldV.only {w w' : World} {H T : Nat} {S : List Nat} {vs : Array Value} (h : HoldV w H vs T) (k : Only S w w') (hn : H ∉ S) : HoldV w' H vs T := (k.block H h.lt hn).trans h
/-- A message's bytes, its sum not yet in it. -/
def icP (t c r : Int) (z : List Int) : List Int := putL t 1 ++ putL c 1 ++ [0, 0] ++ putL r 4 ++ z
theorem icP_len (t c r : Int) (z : List Int) : (icP t c r z).length = 8 + z.length := by unfold icP; simp [putL_len]; omega
theorem icP_bd (t c r : Int) (z : List Int) (h : ∀ q ∈ z, 0 ≤ q ∧ q ≤ 255) : ∀ q ∈ icP t c r z, 0 ≤ q ∧ q ≤ 255 := by
  intro q hq
  unfold icP at hq
  simp only [List.mem_append] at hq
  rcases hq with (((hq | hq) | hq) | hq) | hq
  · exact putL_bd _ _ q hq
  · exact putL_bd _ _ q hq
  · simp only [List.mem_cons, List.not_mem_nil, or_false] at hq; omega
  · exact putL_bd _ _ q hq
  · exact h q hq
theorem saidSize_walk (c r : Int) (a : Option Addr) (n cap : Nat) (w : World) (hm : n ≤ 1048576) : Calls Tryd.prog 123 #[.agg #[.int .i64 c, .int .i64 r, .slice a n cap]] w fun e w' => e = .returned (.int .i64 ((8 + n : Nat) : Int)) ∧ Below w.heap.size w w' := by
  have e1 : IntKind.i64.wrap (8 + (n : Int)) = ((8 + n : Nat) : Int) := by rw [IntKind.wrap_i64]; omega
  have HB := hide ((Below.refl w.heap.size w).alloc (Nat.le_refl _) (.cells #[.int .i64 c, .int .i64 r, .slice a n cap] 99))
  go_enter Tryd.func123, Tryd.ntmps123
  go_wp2
  go_ret
  exact ⟨rfl, HB.out⟩
set_option maxHeartbeats 8000000 in
theorem putAs_ok (g G N n cap : Nat) (a : Option Addr) (t c r : Int) (z : List Int) (w : World) (hc : Cur w g (.slice (some ⟨G, 0, none⟩) N N) 0 .nilIface) (hr : RowB w G (List.replicate N 0)) (hg : g < G) (hN : 8 + n = N) (hb : N ≤ 1048576) (hz : z.length = n) (ha : Arr w a z) (hag : ∀ j, j < z.length → ∃ b off, a = some ⟨b, off, none⟩ ∧ b < g) :
    Calls Tryd.prog 125 #[.agg #[.int .i64 c, .int .i64 r, .slice a n cap], .int .i64 t, .pointer (some ⟨g, 0, none⟩)] w fun e w' => e = .returned (.tuple #[]) ∧ Cur w' g (.slice (some ⟨G, 0, none⟩) N N) N .nilIface ∧ RowB w' G (splice (icP t c r z) 2 (putL (csum (icP t c r z)) 2)) ∧ Only [g, G] w w' := by
  have HW := hide (BoxV.start w #[.int .i64 c, .int .i64 r, .slice a n cap] 99)
  have hgl := hc.lt
  have hGl := hr.lt
  have HC0 := hide (hc.below HW.out.1 hgl)
  have hr0 : RowB (w.alloc (.cells #[.int .i64 c, .int .i64 r, .slice a n cap] 99)) G ([] ++ List.replicate N 0) := hr.below HW.out.1 hGl
  have HR0 := hide hr0
  have HH0 : Hid (HoldV (w.alloc (.cells #[.int .i64 c, .int .i64 r, .slice a n cap] 99)) w.heap.size #[.int .i64 c, .int .i64 r, .slice a n cap] 99) := hide HW.out.2.2
  have HO0 : Hid (Only [g, G] w (w.alloc (.cells #[.int .i64 c, .int .i64 r, .slice a n cap] 99))) := hide (Only.of_below HW.out.1)
  have HNE : Hid (w.heap.size ∉ [g, G]) := hide (by simp; omega)
  have HZ := hide hz
  have HA := hide ha
  have HAG := hide hag
  clear hc hr hr0 hz ha hag hGl hgl HW
  go_enter Tryd.func125, Tryd.ntmps125
  have C := hide (put_on1 g G N 0 (N) t ([]) _ HC0.out HR0.out hg rfl (by omega) hb (by omega))
  have k0 := HH0.out.cell 0 _ rfl
  have k1 := HH0.out.cell 1 _ rfl
  have k2 := HH0.out.cell 2 _ rfl
  go_wp2_with fail
  refine C.out.mono ?_
  rintro e w1 ⟨rfl, hc, hr, ho⟩
  have HC1 : Hid (Cur w1 g (.slice (some ⟨G, 0, none⟩) N N) 1 .nilIface) := hide hc
  have HR1 := hide hr
  have HH1 := hide (HH0.out.only ho HNE.out)
  have HO1 := hide (HO0.out.trans ho)
  clear C hc hr ho k0 k1 k2 HC0 HR0 HH0 HO0
  have C := hide (put_on1 g G N 1 (N - 1) c ([] ++ putL t 1) _ HC1.out HR1.out hg (by simp [putL_len]) (by omega) hb (by omega))
  have k0 := HH1.out.cell 0 _ rfl
  have k1 := HH1.out.cell 1 _ rfl
  have k2 := HH1.out.cell 2 _ rfl
  go_wp2_with fail
  refine C.out.mono ?_
  rintro e w2 ⟨rfl, hc, hr, ho⟩
  have HC2 : Hid (Cur w2 g (.slice (some ⟨G, 0, none⟩) N N) 2 .nilIface) := hide hc
  have HR2 := hide hr
  have HH2 := hide (HH1.out.only ho HNE.out)
  have HO2 := hide (HO1.out.trans ho)
  clear C hc hr ho k0 k1 k2 HC1 HR1 HH1 HO1
  have C := hide (pass_on2 g G N 2 w2 HC2.out hb (by omega))
  go_wp2_with fail
  refine C.out.mono ?_
  rintro e w3 ⟨rfl, hc, ho⟩
  have HC3 : Hid (Cur w3 g (.slice (some ⟨G, 0, none⟩) N N) 4 .nilIface) := hide hc
  have hr := HR2.out.kept ho (by intro e; cases e; omega)
  rw [rep_two _ _ (by omega)] at hr
  have HR3 := hide hr
  have ho2 : Only [g, G] w2 w3 := (Only.of_some ho).mono (by simp)
  have HH3 := hide (HH2.out.only ho2 HNE.out)
  have HO3 := hide (HO2.out.trans ho2)
  clear C hc hr ho ho2 HC2 HR2 HH2 HO2
  have C := hide (put_on4 g G N 4 (N - 1 - 1 - 2) r ([] ++ putL t 1 ++ putL c 1 ++ [0, 0]) _ HC3.out HR3.out hg (by simp [putL_len]) (by omega) hb (by omega))
  have k0 := HH3.out.cell 0 _ rfl
  have k1 := HH3.out.cell 1 _ rfl
  have k2 := HH3.out.cell 2 _ rfl
  go_wp2_with fail
  refine C.out.mono ?_
  rintro e w4 ⟨rfl, hc, hr, ho⟩
  have HC4 : Hid (Cur w4 g (.slice (some ⟨G, 0, none⟩) N N) 8 .nilIface) := hide hc
  have HR4 := hide hr
  have HH4 := hide (HH3.out.only ho HNE.out)
  have HO4 := hide (HO3.out.trans ho)
  clear C hc hr ho k0 k1 k2 HC3 HR3 HH3 HO3
  have HAN : Hid (∀ j, j < z.length → ∃ b off, a = some ⟨b, off, none⟩ ∧ b ∉ [g, G]) := hide (fun j hj => by obtain ⟨b, off, e, hlt⟩ := HAG.out j hj; exact ⟨b, off, e, by simp; omega⟩)
  have C := hide (putBytes_onl g G N 8 (N - 1 - 1 - 2 - 4) n cap a ([] ++ putL t 1 ++ putL c 1 ++ [0, 0] ++ putL r 4) z w4 HC4.out HR4.out hg (by simp [putL_len]) (by omega) hb (by omega) HZ.out (arr_only HA.out HO4.out HAN.out) HAG.out)
  have k0 := HH4.out.cell 0 _ rfl
  have k1 := HH4.out.cell 1 _ rfl
  have k2 := HH4.out.cell 2 _ rfl
  go_wp2_with fail
  refine C.out.mono ?_
  rintro e w5 ⟨rfl, hc, hr, ho⟩
  have hcN : Cur w5 g (.slice (some ⟨G, 0, none⟩) N N) N .nilIface := by
    rw [hN] at hc
    exact hc
  have HC := hide hcN
  have HR : Hid (RowB w5 G (icP t c r z)) := hide (by
    have e : N - 1 - 1 - 2 - 4 - n = 0 := by omega
    rw [e, List.replicate_zero, List.append_nil] at hr
    exact hr)
  have HO := hide (HO4.out.trans ho)
  clear C hc hcN hr ho k0 k1 k2 HC4 HR4 HH4 HO4
  have HBD := hide (icP_bd t c r z HA.out.1)
  have HL : Hid ((icP t c r z).length = N) := hide (by rw [icP_len, HZ.out, hN])
  generalize hD : icP t c r z = D at *
  have HD := hide hD
  clear hD
  have CP := hide (passed_walk g N N N G 0 .nilIface w5 HC.out (Nat.le_refl _) (by omega))
  go_wp2_with fail
  refine CP.out.mono ?_
  rintro e wa ⟨rfl, m, rfl⟩
  have hk := checksum_walk (some ⟨G, 0, none⟩) N N D (w5.drewN m) HL.out (HR.out.arr HBD.out) (by omega)
  have CK : Hid (Calls Tryd.prog 87 #[.slice (some ⟨G, 0, none⟩) N N] (w5.drewN m) fun e w' => e = .returned (.int .i64 (csum D)) ∧ Below (w5.drewN m).heap.size (w5.drewN m) w') := hide (hk.mono (by rintro e w' ⟨rfl, hb, _⟩; refine ⟨?_, hb⟩; unfold csum; rw [HL.out]))
  clear hk CP
  go_wp2_with fail
  refine CK.out.mono ?_
  rintro e wb ⟨rfl, hbk⟩
  have hb2 : Below w5.heap.size w5 wb := ⟨hbk.os, hbk.tape, hbk.output, hbk.size, hbk.block⟩
  have HC2 := hide (HC.out.below hb2 HC.out.lt)
  have HR2 := hide (HR.out.below hb2 HR.out.lt)
  have HO2 := hide (HO.out.trans (Only.of_below hb2))
  clear CK hbk hb2 HC HR HO
  have CN := hide (putNumber_at G 2 2 (N - 2) (csum D) _ wb (by omega) HR2.out (by rw [HL.out]; omega))
  go_wp2_with fail
  refine CN.out.mono ?_
  rintro e wc ⟨rfl, hr, hgc⟩
  have HC3 := hide (HC2.out.kept hgc (by intro e; cases e; omega))
  have HR3 := hide hr
  have HO3 := hide (HO2.out.trans ((Only.of_some hgc).mono (by simp)))
  clear CN hr hgc HC2 HR2 HO2
  go_wp2_with fail
  go_end0
  exact ⟨rfl, HC3.out, by rw [HD.out]; exact HR3.out, HO3.out⟩
set_option maxHeartbeats 8000000 in
theorem putAs_err (g n cap : Nat) (a : Option Addr) (t c r q : Int) (w : World) (hc : Cur w g (.slice none 0 0) 0 (wErr q)) (hm : n ≤ 1048576) :
    Calls Tryd.prog 125 #[.agg #[.int .i64 c, .int .i64 r, .slice a n cap], .int .i64 t, .pointer (some ⟨g, 0, none⟩)] w fun e w' => e = .returned (.tuple #[]) ∧ Below w.heap.size w w' := by
  have HW := hide (BoxV.start w #[.int .i64 c, .int .i64 r, .slice a n cap] 99)
  have HC := hide (hc.below HW.out.1 hc.lt)
  have HH : Hid (HoldV (w.alloc (.cells #[.int .i64 c, .int .i64 r, .slice a n cap] 99)) w.heap.size #[.int .i64 c, .int .i64 r, .slice a n cap] 99) := hide HW.out.2.2
  clear hc
  go_enter Tryd.func125, Tryd.ntmps125
  have k0 := (show HoldV ((w.alloc (.cells #[.int .i64 c, .int .i64 r, .slice a n cap] 99))) _ _ _ from HH.out).cell 0 _ rfl
  have k1 := (show HoldV ((w.alloc (.cells #[.int .i64 c, .int .i64 r, .slice a n cap] 99))) _ _ _ from HH.out).cell 1 _ rfl
  have k2 := (show HoldV ((w.alloc (.cells #[.int .i64 c, .int .i64 r, .slice a n cap] 99))) _ _ _ from HH.out).cell 2 _ rfl
  go_wp2_with fail
  refine (put_err g 0 0 0 none q _ 1 _ (show Cur ((w.alloc (.cells #[.int .i64 c, .int .i64 r, .slice a n cap] 99))) _ _ _ _ from HC.out) (by omega) (by omega) (by omega) (by omega)).mono ?_
  rintro e v0 ⟨rfl, m0, rfl⟩
  clear k0 k1 k2
  have k0 := (show HoldV ((w.alloc (.cells #[.int .i64 c, .int .i64 r, .slice a n cap] 99)).drewN m0) _ _ _ from HH.out).cell 0 _ rfl
  have k1 := (show HoldV ((w.alloc (.cells #[.int .i64 c, .int .i64 r, .slice a n cap] 99)).drewN m0) _ _ _ from HH.out).cell 1 _ rfl
  have k2 := (show HoldV ((w.alloc (.cells #[.int .i64 c, .int .i64 r, .slice a n cap] 99)).drewN m0) _ _ _ from HH.out).cell 2 _ rfl
  go_wp2_with fail
  refine (put_err g 0 0 0 none q _ 1 _ (show Cur ((w.alloc (.cells #[.int .i64 c, .int .i64 r, .slice a n cap] 99)).drewN m0) _ _ _ _ from HC.out) (by omega) (by omega) (by omega) (by omega)).mono ?_
  rintro e v1 ⟨rfl, m1, rfl⟩
  clear k0 k1 k2
  go_wp2_with fail
  refine (pass_err g 0 0 0 none q 2 _ (show Cur ((w.alloc (.cells #[.int .i64 c, .int .i64 r, .slice a n cap] 99)).drewN (m0 + m1)) _ _ _ _ from HC.out) (by omega) (by omega) (by omega) (by omega)).mono ?_
  rintro e v2 ⟨rfl, m2, rfl⟩
  have k0 := (show HoldV ((w.alloc (.cells #[.int .i64 c, .int .i64 r, .slice a n cap] 99)).drewN (m0 + m1 + m2)) _ _ _ from HH.out).cell 0 _ rfl
  have k1 := (show HoldV ((w.alloc (.cells #[.int .i64 c, .int .i64 r, .slice a n cap] 99)).drewN (m0 + m1 + m2)) _ _ _ from HH.out).cell 1 _ rfl
  have k2 := (show HoldV ((w.alloc (.cells #[.int .i64 c, .int .i64 r, .slice a n cap] 99)).drewN (m0 + m1 + m2)) _ _ _ from HH.out).cell 2 _ rfl
  go_wp2_with fail
  refine (put_err g 0 0 0 none q _ 4 _ (show Cur ((w.alloc (.cells #[.int .i64 c, .int .i64 r, .slice a n cap] 99)).drewN (m0 + m1 + m2)) _ _ _ _ from HC.out) (by omega) (by omega) (by omega) (by omega)).mono ?_
  rintro e v3 ⟨rfl, m3, rfl⟩
  clear k0 k1 k2
  have k0 := (show HoldV ((w.alloc (.cells #[.int .i64 c, .int .i64 r, .slice a n cap] 99)).drewN (m0 + m1 + m2 + m3)) _ _ _ from HH.out).cell 0 _ rfl
  have k1 := (show HoldV ((w.alloc (.cells #[.int .i64 c, .int .i64 r, .slice a n cap] 99)).drewN (m0 + m1 + m2 + m3)) _ _ _ from HH.out).cell 1 _ rfl
  have k2 := (show HoldV ((w.alloc (.cells #[.int .i64 c, .int .i64 r, .slice a n cap] 99)).drewN (m0 + m1 + m2 + m3)) _ _ _ from HH.out).cell 2 _ rfl
  go_wp2_with fail
  refine (putBytes_err g 0 0 0 n cap none a q _ (show Cur ((w.alloc (.cells #[.int .i64 c, .int .i64 r, .slice a n cap] 99)).drewN (m0 + m1 + m2 + m3)) _ _ _ _ from HC.out) (by omega) (by omega) (by omega)).mono ?_
  rintro e v ⟨rfl, mb, rfl⟩
  clear k0 k1 k2
  go_wp2_with fail
  refine (passed_none g (wErr q) _ (show Cur ((w.alloc (.cells #[.int .i64 c, .int .i64 r, .slice a n cap] 99)).drewN (m0 + m1 + m2 + m3 + mb)) _ _ _ _ from HC.out)).mono ?_
  rintro e v ⟨rfl, mp, rfl⟩
  have CK := hide (fun W => checksum_walk none 0 0 [] W rfl ⟨by simp, fun j hj => by simp at hj⟩ (by omega))
  go_wp2_with fail
  refine (CK.out _).mono ?_
  rintro e wb ⟨rfl, hbk, _⟩
  have HB : Hid (Below w.heap.size w wb) := hide (HW.out.1.trans (Below.mono (B := (w.alloc (.cells #[.int .i64 c, .int .i64 r, .slice a n cap] 99)).heap.size) ⟨hbk.os, hbk.tape, hbk.output, hbk.size, hbk.block⟩ HW.out.1.size))
  clear hbk CK
  go_wp2_with fail
  refine (putNumber_none _ _).mono ?_
  rintro e v ⟨rfl, rfl⟩
  go_wp2_with fail
  go_end0
  exact ⟨rfl, HB.out⟩
end Go.Proofs.YtakoagfeiolkjabDoor
