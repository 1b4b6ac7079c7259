/-
Contracts of functions of this seat.
-/
import Derived.Test.YtgegnkboibgbgaaRows
import Derived.WalkKit
import Derived.ProofKit
import Derived.OpenShut
import Derived.Test.YtgegnkboibgbgaaRr1
import Derived.Deep.Cut
namespace Go.Proofs.Ytgegnkboibgbgaa
open Go.ChangeShapes Go.WideShapes Go.ChangeAt Go.RowKit
set_option linter.unusedVariables false
set_option maxRecDepth 100000
abbrev wVia : List UInt8 := [118, 105, 97]
abbrev wLink : List UInt8 := [108, 105, 110, 107]
abbrev wMetric : List UInt8 := [109, 101, 116, 114, 105, 99]
/-- What is left behind the prefix, the next hop, the link and the metric; what was read there. -/
def rrS1 (ps : List (List UInt8)) : List (List UInt8) × Bool := (tkR ps false, tkI ps false || !pfOK (tkW ps false))
def rrVia (R : List (List UInt8)) (I : Bool) : Int × List (List UInt8) × Bool := if psB wVia R I then (adX (tkW (psR wVia R I) I), tkR (psR wVia R I) I, tkI (psR wVia R I) I || !hoOK (tkW (psR wVia R I) I)) else (0, psR wVia R I, I)
def rrNum (R : List (List UInt8)) (I : Bool) (most : Int) : Int × List (List UInt8) × Bool := (numX (tkW R I) most, tkR R I, tkI R I || !numOK (tkW R I) most)
def rrLink (R : List (List UInt8)) (I : Bool) : Int × List (List UInt8) × Bool := rrNum (psR wLink R I) (I || !psB wLink R I) 7
def rrMet (R : List (List UInt8)) (I : Bool) : Int × List (List UInt8) × Bool := if psB wMetric R I then rrNum (psR wMetric R I) I 1000000 else (0, psR wMetric R I, I)
def rrV (ps : List (List UInt8)) := rrVia (rrS1 ps).1 (rrS1 ps).2
def rrL (ps : List (List UInt8)) := rrLink (rrV ps).2.1 (rrV ps).2.2
def rrM (ps : List (List UInt8)) := rrMet (rrL ps).2.1 (rrL ps).2.2
def rrOK (ps : List (List UInt8)) : Bool := !(rrM ps).2.2 && (rrM ps).2.1.isEmpty
theorem wds_via {R : List (List UInt8)} (h : Wds R) (I : Bool) : Wds (rrVia R I).2.1 := by
  unfold rrVia
  split
  · exact (h.pass _ _).take _
  · exact h.pass _ _
theorem wds_link {R : List (List UInt8)} (h : Wds R) (I : Bool) : Wds (rrLink R I).2.1 := (h.pass _ _).take _
theorem wds_met {R : List (List UInt8)} (h : Wds R) (I : Bool) : Wds (rrMet R I).2.1 := by
  unfold rrMet
  split
  · exact (h.pass _ _).take _
  · exact h.pass _ _
set_option maxHeartbeats 4000000 in
theorem readRoute_walk (w : World) (a : Option Addr) (ps : List (List UInt8)) (cap : Nat) (hd : Wds ps) (hs : ArrS w a ps) (hc : ps.length ≤ cap) :
    Calls Try.prog 18 #[.slice a ps.length cap] w fun e w' => e = .returned (.tuple #[.agg #[.int .i64 (pfA (tkW ps false)), .int .i64 (pfB (tkW ps false)), .int .i64 (rrV ps).1, .int .i64 (rrL ps).1, .int .i64 (rrM ps).1], .bool (rrOK ps)]) ∧ Below w.heap.size w w' := by
  have H0 := hide (rr_start w a ps cap hs hc)
  have C0 := hide (rr_prefix hd H0.out)
  have HD1 : Hid (Wds (rrS1 ps).1) := hide (hd.take false)
  generalize hA : pfA (tkW ps false) = A at *
  generalize hB : pfB (tkW ps false) = B at *
  have EAB := hide (And.intro hA hB)
  clear hA hB hs hd
  go_enter Try.func18, Try.ntmps18
  go_wp2_with fail
  refine C0.out.mono ?_
  rintro e w1 ⟨rfl, h1⟩
  have c0 := h1.rt.cell 0 (.int .i64 0) rfl
  have c1 := h1.rt.cell 1 (.int .i64 0) rfl
  have cf := h1.rt.frozen
  have H1 : Hid (RRS w ((w1.setCell ⟨w.heap.size + 1 + 1, 0, none⟩ (.int .i64 A)).setCell ⟨w.heap.size + 1 + 1, 1, none⟩ (.int .i64 B)) (rrS1 ps).1 (rrS1 ps).2 A B 0 0 0) := hide ((h1.set 0 A rfl).set 1 B rfl)
  clear h1 C0 H0
  generalize e1 : rrS1 ps = s1 at *
  have E1 := hide e1
  clear e1
  obtain ⟨R1, I1⟩ := s1
  dsimp only at *
  have C1 := hide (rr_passes HD1.out wVia H1.out)
  have HR2 := hide (HD1.out.pass wVia I1)
  cases hv : psB wVia R1 I1 with
  | true =>
    have HV : Hid (rrVia R1 I1 = (adX (tkW (psR wVia R1 I1) I1), tkR (psR wVia R1 I1) I1, tkI (psR wVia R1 I1) I1 || !hoOK (tkW (psR wVia R1 I1) I1))) := hide (by unfold rrVia; rw [if_pos hv])
    rw [hv] at C1
    go_wp2_with fail
    refine C1.out.mono ?_
    rintro e w2 ⟨rfl, h2⟩
    have C2 := hide (rr_host HR2.out h2)
    clear h2 C1 H1 c0 c1 cf hv
    go_wp2_with fail
    refine C2.out.mono ?_
    rintro e w3 ⟨rfl, h3⟩
    have c0 := h3.rt.cell 2 (.int .i64 0) rfl
    have cf := h3.rt.frozen
    have H3 := hide (h3.set 2 (adX (tkW (psR wVia R1 I1) I1)) rfl)
    have HD2 := hide (HR2.out.take I1)
    clear h3 C2 HR2
    dsimp only at *
    generalize adX (tkW (psR wVia R1 I1) I1) = V at *
    generalize (tkI (psR wVia R1 I1) I1 || !hoOK (tkW (psR wVia R1 I1) I1)) = I3 at *
    generalize tkR (psR wVia R1 I1) I1 = R3 at *
    have C3 := hide (rr_passes HD2.out wLink H3.out)
    go_wp2_with fail
    refine C3.out.mono ?_
    rintro e w4 ⟨rfl, h4⟩
    have C4 := hide (rr_demand (psB wLink R3 I3) h4)
    clear h4 C3 H3 c0 cf
    go_wp2_with fail
    refine C4.out.mono ?_
    rintro e w5 ⟨rfl, h5⟩
    have C5 := hide (rr_decimal (HD2.out.pass wLink I3) 7 (by omega) h5)
    clear h5 C4
    go_wp2_with fail
    refine C5.out.mono ?_
    rintro e w6 ⟨rfl, h6⟩
    have c0 := h6.rt.cell 3 (.int .i64 0) rfl
    have cf := h6.rt.frozen
    have H6 : Hid (RRS w (w6.setCell ⟨w.heap.size + 1 + 1, 3, none⟩ (.int .i64 (rrLink R3 I3).1)) (rrLink R3 I3).2.1 (rrLink R3 I3).2.2 A B V (rrLink R3 I3).1 0) := hide (h6.set 3 _ rfl)
    have HN : Hid (numX (tkW (psR wLink R3 I3) (I3 || !psB wLink R3 I3)) 7 = (rrLink R3 I3).1) := hide rfl
    rw [HN.out]
    have HD3 : Hid (Wds (rrLink R3 I3).2.1) := hide ((HD2.out.pass wLink I3).take _)
    clear h6 C5 HN
    generalize e3 : rrLink R3 I3 = s3 at *
    have E3 := hide e3
    clear e3
    obtain ⟨L, R5, I5⟩ := s3
    dsimp only at *
    have C6 := hide (rr_passes HD3.out wMetric H6.out)
    have HR6 := hide (HD3.out.pass wMetric I5)
    cases hm : psB wMetric R5 I5 with
    | true =>
      have HM : Hid (rrMet R5 I5 = rrNum (psR wMetric R5 I5) I5 1000000) := hide (by unfold rrMet; rw [if_pos hm])
      rw [hm] at C6
      go_wp2_with fail
      refine C6.out.mono ?_
      rintro e w7 ⟨rfl, h7⟩
      have C7 := hide (rr_decimal HR6.out 1000000 (by omega) h7)
      clear h7 C6 H6 c0 cf hm
      go_wp2_with fail
      refine C7.out.mono ?_
      rintro e w8 ⟨rfl, h8⟩
      have c0 := h8.rt.cell 4 (.int .i64 0) rfl
      have cf := h8.rt.frozen
      have H8 : Hid (RRS w (w8.setCell ⟨w.heap.size + 1 + 1, 4, none⟩ (.int .i64 (rrNum (psR wMetric R5 I5) I5 1000000).1)) (rrNum (psR wMetric R5 I5) I5 1000000).2.1 (rrNum (psR wMetric R5 I5) I5 1000000).2.2 A B V L (rrNum (psR wMetric R5 I5) I5 1000000).1) := hide (h8.set 4 _ rfl)
      have HN : Hid (numX (tkW (psR wMetric R5 I5) I5) 1000000 = (rrNum (psR wMetric R5 I5) I5 1000000).1) := hide rfl
      rw [HN.out]
      have HD4 : Hid (Wds (rrNum (psR wMetric R5 I5) I5 1000000).2.1) := hide (HR6.out.take _)
      clear h8 C7 HN HR6
      generalize rrNum (psR wMetric R5 I5) I5 1000000 = s5 at *
      obtain ⟨M, R7, I7⟩ := s5
      dsimp only at *
      go_upto_region 10 with fail
      have H9 := hide (RRS.drew H8.out)
      have CR := hide (rr_isRead HD4.out H9.out)
      have b0 := H8.out.box.cell 0 (.int .i64 0) rfl
      have b1 := H8.out.box.cell 1 (.int .i64 0) rfl
      have b2 := H8.out.box.cell 2 (.int .i64 0) rfl
      have b3 := H8.out.box.cell 3 (.int .i64 0) rfl
      have b4 := H8.out.box.cell 4 (.int .i64 0) rfl
      have bf := H8.out.box.frozen
      have r0 := H8.out.rt.cell 0 (.int .i64 A) rfl
      have r1 := H8.out.rt.cell 1 (.int .i64 B) rfl
      have r2 := H8.out.rt.cell 2 (.int .i64 V) rfl
      have r3 := H8.out.rt.cell 3 (.int .i64 L) rfl
      have r4 := H8.out.rt.cell 4 (.int .i64 M) rfl
      have HB := hide H9.out.below
      clear H8 H9
      generalize (w8.setCell ⟨w.heap.size + 1 + 1, 4, none⟩ (.int .i64 M)) = WF at *
      go_region_with ((go_at_call 36; refine CR.out.mono ?_; rintro e w' ⟨rfl, rfl⟩))
      all_goals go_wp2_with fail
      all_goals exact bodyPost_ret (v := .tuple #[.agg #[.int .i64 A, .int .i64 B, .int .i64 V, .int .i64 L, .int .i64 M], .bool (!I7 && R7.isEmpty)]) (by simp [results, Try.results18, go_sem, b0, b1, b2, b3, b4]) rfl ⟨by simp only [rrOK, rrM, rrL, rrV, E1.out, HV.out, E3.out, HM.out], below_five5 HB.out⟩
    | false =>
      have HM : Hid (rrMet R5 I5 = (0, psR wMetric R5 I5, I5)) := hide (by unfold rrMet; rw [if_neg (by rw [hm]; simp)])
      rw [hm] at C6
      go_wp2_with fail
      refine C6.out.mono ?_
      rintro e w8 ⟨rfl, h8⟩
      have H8 := hide h8
      have HD4 := HR6
      clear h8 C6 H6 c0 cf hm HR6
      dsimp only at *
      generalize psR wMetric R5 I5 = R7 at *
    
      go_upto_region 10 with fail
      have H9 := hide (RRS.drew H8.out)
      have CR := hide (rr_isRead HD4.out H9.out)
      have b0 := H8.out.box.cell 0 (.int .i64 0) rfl
      have b1 := H8.out.box.cell 1 (.int .i64 0) rfl
      have b2 := H8.out.box.cell 2 (.int .i64 0) rfl
      have b3 := H8.out.box.cell 3 (.int .i64 0) rfl
      have b4 := H8.out.box.cell 4 (.int .i64 0) rfl
      have bf := H8.out.box.frozen
      have r0 := H8.out.rt.cell 0 (.int .i64 A) rfl
      have r1 := H8.out.rt.cell 1 (.int .i64 B) rfl
      have r2 := H8.out.rt.cell 2 (.int .i64 V) rfl
      have r3 := H8.out.rt.cell 3 (.int .i64 L) rfl
      have r4 := H8.out.rt.cell 4 (.int .i64 0) rfl
      have HB := hide H9.out.below
      clear H8 H9
      generalize w8 = WF at *
      go_region_with ((go_at_call 36; refine CR.out.mono ?_; rintro e w' ⟨rfl, rfl⟩))
      all_goals go_wp2_with fail
      all_goals exact bodyPost_ret (v := .tuple #[.agg #[.int .i64 A, .int .i64 B, .int .i64 V, .int .i64 L, .int .i64 0], .bool (!I5 && R7.isEmpty)]) (by simp [results, Try.results18, go_sem, b0, b1, b2, b3, b4]) rfl ⟨by simp only [rrOK, rrM, rrL, rrV, E1.out, HV.out, E3.out, HM.out], below_five5 HB.out⟩
  | false =>
    have HV : Hid (rrVia R1 I1 = (0, psR wVia R1 I1, I1)) := hide (by unfold rrVia; rw [if_neg (by rw [hv]; simp)])
    rw [hv] at C1
    go_wp2_with fail
    refine C1.out.mono ?_
    rintro e w3 ⟨rfl, h3⟩
    have H3 := hide h3
    have HD2 := HR2
    clear h3 C1 H1 c0 c1 cf hv HR2
    dsimp only at *
    generalize psR wVia R1 I1 = R3 at *
  
    have C3 := hide (rr_passes HD2.out wLink H3.out)
    go_wp2_with fail
    refine C3.out.mono ?_
    rintro e w4 ⟨rfl, h4⟩
    have C4 := hide (rr_demand (psB wLink R3 I1) h4)
    clear h4 C3 H3
    go_wp2_with fail
    refine C4.out.mono ?_
    rintro e w5 ⟨rfl, h5⟩
    have C5 := hide (rr_decimal (HD2.out.pass wLink I1) 7 (by omega) h5)
    clear h5 C4
    go_wp2_with fail
    refine C5.out.mono ?_
    rintro e w6 ⟨rfl, h6⟩
    have c0 := h6.rt.cell 3 (.int .i64 0) rfl
    have cf := h6.rt.frozen
    have H6 : Hid (RRS w (w6.setCell ⟨w.heap.size + 1 + 1, 3, none⟩ (.int .i64 (rrLink R3 I1).1)) (rrLink R3 I1).2.1 (rrLink R3 I1).2.2 A B 0 (rrLink R3 I1).1 0) := hide (h6.set 3 _ rfl)
    have HN : Hid (numX (tkW (psR wLink R3 I1) (I1 || !psB wLink R3 I1)) 7 = (rrLink R3 I1).1) := hide rfl
    rw [HN.out]
    have HD3 : Hid (Wds (rrLink R3 I1).2.1) := hide ((HD2.out.pass wLink I1).take _)
    clear h6 C5 HN
    generalize e3 : rrLink R3 I1 = s3 at *
    have E3 := hide e3
    clear e3
    obtain ⟨L, R5, I5⟩ := s3
    dsimp only at *
    have C6 := hide (rr_passes HD3.out wMetric H6.out)
    have HR6 := hide (HD3.out.pass wMetric I5)
    cases hm : psB wMetric R5 I5 with
    | true =>
      have HM : Hid (rrMet R5 I5 = rrNum (psR wMetric R5 I5) I5 1000000) := hide (by unfold rrMet; rw [if_pos hm])
      rw [hm] at C6
      go_wp2_with fail
      refine C6.out.mono ?_
      rintro e w7 ⟨rfl, h7⟩
      have C7 := hide (rr_decimal HR6.out 1000000 (by omega) h7)
      clear h7 C6 H6 c0 cf hm
      go_wp2_with fail
      refine C7.out.mono ?_
      rintro e w8 ⟨rfl, h8⟩
      have c0 := h8.rt.cell 4 (.int .i64 0) rfl
      have cf := h8.rt.frozen
      have H8 : Hid (RRS w (w8.setCell ⟨w.heap.size + 1 + 1, 4, none⟩ (.int .i64 (rrNum (psR wMetric R5 I5) I5 1000000).1)) (rrNum (psR wMetric R5 I5) I5 1000000).2.1 (rrNum (psR wMetric R5 I5) I5 1000000).2.2 A B 0 L (rrNum (psR wMetric R5 I5) I5 1000000).1) := hide (h8.set 4 _ rfl)
      have HN : Hid (numX (tkW (psR wMetric R5 I5) I5) 1000000 = (rrNum (psR wMetric R5 I5) I5 1000000).1) := hide rfl
      rw [HN.out]
      have HD4 : Hid (Wds (rrNum (psR wMetric R5 I5) I5 1000000).2.1) := hide (HR6.out.take _)
      clear h8 C7 HN HR6
      generalize rrNum (psR wMetric R5 I5) I5 1000000 = s5 at *
      obtain ⟨M, R7, I7⟩ := s5
      dsimp only at *
      go_upto_region 10 with fail
      have H9 := hide (RRS.drew H8.out)
      have CR := hide (rr_isRead HD4.out H9.out)
      have b0 := H8.out.box.cell 0 (.int .i64 0) rfl
      have b1 := H8.out.box.cell 1 (.int .i64 0) rfl
      have b2 := H8.out.box.cell 2 (.int .i64 0) rfl
      have b3 := H8.out.box.cell 3 (.int .i64 0) rfl
      have b4 := H8.out.box.cell 4 (.int .i64 0) rfl
      have bf := H8.out.box.frozen
      have r0 := H8.out.rt.cell 0 (.int .i64 A) rfl
      have r1 := H8.out.rt.cell 1 (.int .i64 B) rfl
      have r2 := H8.out.rt.cell 2 (.int .i64 0) rfl
      have r3 := H8.out.rt.cell 3 (.int .i64 L) rfl
      have r4 := H8.out.rt.cell 4 (.int .i64 M) rfl
      have HB := hide H9.out.below
      clear H8 H9
      generalize (w8.setCell ⟨w.heap.size + 1 + 1, 4, none⟩ (.int .i64 M)) = WF at *
      go_region_with ((go_at_call 36; refine CR.out.mono ?_; rintro e w' ⟨rfl, rfl⟩))
      all_goals go_wp2_with fail
      all_goals exact bodyPost_ret (v := .tuple #[.agg #[.int .i64 A, .int .i64 B, .int .i64 0, .int .i64 L, .int .i64 M], .bool (!I7 && R7.isEmpty)]) (by simp [results, Try.results18, go_sem, b0, b1, b2, b3, b4]) rfl ⟨by simp only [rrOK, rrM, rrL, rrV, E1.out, HV.out, E3.out, HM.out], below_five5 HB.out⟩
    | false =>
      have HM : Hid (rrMet R5 I5 = (0, psR wMetric R5 I5, I5)) := hide (by unfold rrMet; rw [if_neg (by rw [hm]; simp)])
      rw [hm] at C6
      go_wp2_with fail
      refine C6.out.mono ?_
      rintro e w8 ⟨rfl, h8⟩
      have H8 := hide h8
      have HD4 := HR6
      clear h8 C6 H6 c0 cf hm HR6
      dsimp only at *
      generalize psR wMetric R5 I5 = R7 at *
    
      go_upto_region 10 with fail
      have H9 := hide (RRS.drew H8.out)
      have CR := hide (rr_isRead HD4.out H9.out)
      have b0 := H8.out.box.cell 0 (.int .i64 0) rfl
      have b1 := H8.out.box.cell 1 (.int .i64 0) rfl
      have b2 := H8.out.box.cell 2 (.int .i64 0) rfl
      have b3 := H8.out.box.cell 3 (.int .i64 0) rfl
      have b4 := H8.out.box.cell 4 (.int .i64 0) rfl
      have bf := H8.out.box.frozen
      have r0 := H8.out.rt.cell 0 (.int .i64 A) rfl
      have r1 := H8.out.rt.cell 1 (.int .i64 B) rfl
      have r2 := H8.out.rt.cell 2 (.int .i64 0) rfl
      have r3 := H8.out.rt.cell 3 (.int .i64 L) rfl
      have r4 := H8.out.rt.cell 4 (.int .i64 0) rfl
      have HB := hide H9.out.below
      clear H8 H9
      generalize w8 = WF at *
      go_region_with ((go_at_call 36; refine CR.out.mono ?_; rintro e w' ⟨rfl, rfl⟩))
      all_goals go_wp2_with fail
      all_goals exact bodyPost_ret (v := .tuple #[.agg #[.int .i64 A, .int .i64 B, .int .i64 0, .int .i64 L, .int .i64 0], .bool (!I5 && R7.isEmpty)]) (by simp [results, Try.results18, go_sem, b0, b1, b2, b3, b4]) rfl ⟨by simp only [rrOK, rrM, rrL, rrV, E1.out, HV.out, E3.out, HM.out], below_five5 HB.out⟩
end Go.Proofs.Ytgegnkboibgbgaa
