/-
Contracts of functions of this seat.
-/
import Derived.Test.YtakoagfeiolkjabDoorRows
import Derived.WalkKit
import Derived.ProofKit
import Derived.OpenShut
import Derived.Test.YtakoagfeiolkjabDoorIpp
import Derived.Test.YtakoagfeiolkjabDoorAns
namespace Go.Proofs.YtakoagfeiolkjabDoor
open Go.ChangeShapes Go.WideShapes Go.ChangeAt Go.RowKit
set_option linter.unusedVariables false
set_option maxRecDepth 100000
set_option maxHeartbeats 1000000 in
theorem l03Put_any (v : Int) (width : Nat) (w : World) (hw : width ≤ 8) :
    Calls Tryd.prog 39 #[.int .i64 v, .int .i64 (width : Int)] w fun e w' => ∃ u : Value, e = .returned u ∧ OwnB w' w.heap.size u (putL v width) ∧ Below w.heap.size w w' := by
  obtain ⟨i, hi, hz0, hz1, hz2⟩ := info_parts Tryd.infoB
  have hst : OwnB (w.alloc (.cells #[] 5)) w.heap.size (.slice (some ⟨w.heap.size, 0, none⟩) 0 0) [] :=
    ⟨World.ownsRow_lit (base := w.heap.size) (e := 5) (size := 1) w #[] 0 (Nat.le_refl _) (by decide) rfl, by simp⟩
  have HST := hide hst
  have hb0 := (Below.refl w.heap.size w).alloc (Nat.le_refl _) (.cells #[] 5)
  clear hst
  go_enter Tryd.func39, Tryd.ntmps39
  go_wp2_with fail
  generalize w.alloc (.cells #[] 5) = W at *
  go_loopw [5, 6] (fun o t w2 => ∃ j : Nat, j ≤ width ∧ t = .int .i64 ((width : Int) - 1 - (j : Int)) ∧ Hid (OwnB w2 w.heap.size o (putP v width j)) ∧ Below w.heap.size w w2) (fun _ t _ => (intOf t + 1).toNat)
  case atStart => exact ⟨0, Nat.zero_le _, by go_num, HST, hb0⟩
  case round =>
    obtain ⟨j, hj, rfl, HO, hb⟩ := hrel
    clear hb0
    by_cases hlt : j < width
    · have HT := hide (putP_succ v width j)
      have HL := hide (putP_len v width j)
      have hbd := byteOf_bd v width j
      have HE : Hid (v / 2 ^ (8 * (width - 1 - j)) % 256 = byteOf v width j) := hide rfl
      go_wp2_with (first | (at_builtin; refine wpList_append_own _ rfl _ _ 22 rfl w.heap.size 5 i _ 1 1 Tryd.underlying22 hi hz0 hz1 hz2 rfl (by decide) u5 (putP v width j).length (bval (putP v width j)) rfl (HO.out.1.alloc _) ⟨wr.heap.size, 0, none⟩ 1 1 (bval [_]) rfl rfl (cell_one _ _ _) (oneCells _) (by have := HL.out; unfold maxLen; omega) (by have := HL.out; omega) (by have := hb.size; rw [World.size_alloc]; omega) ?_))
      intro v' w3 hown' hgrow hnil
      have hlo := HO.out.1.lt
      have HO3 := hide (OwnB.app hown' rfl HO.out.2 (by intro y hy; simp at hy; subst hy; exact hbd))
      have hb3 : Below w.heap.size w w3 := (hb.alloc hb.size _).grown hgrow (by have := hb.size; rw [World.size_alloc]; omega) (fun k hk => (hlo k hk).1)
      clear hown' hnil hgrow hb hlo
      go_wp2_with fail
      exact ⟨⟨j + 1, by omega, by go_num, hide (by rw [HT.out]; exact HO3.out), hb3⟩, by simp [intOf]; omega⟩
    · have hj' : j = width := by omega
      subst hj'
      go_wp2_with fail
      go_ret
      exact ⟨u5, rfl, HO.out, hb⟩

/-- A false head's bytes. -/
def fhB (s d p l : Int) : List Int := putL s 4 ++ putL d 4 ++ [0] ++ putL p 1 ++ putL l 2
theorem fhB_len (s d p l : Int) : (fhB s d p l).length = 12 := by unfold fhB; simp [putL_len]
theorem fhB_bd (s d p l : Int) : ∀ q ∈ fhB s d p l, 0 ≤ q ∧ q ≤ 255 := by
  intro q hq
  unfold fhB at hq
  simp only [List.mem_append] at hq
  rcases hq with (((hq | hq) | hq) | hq) | hq
  · exact putL_bd _ _ q hq
  · exact putL_bd _ _ q hq
  · simp only [List.mem_cons, List.not_mem_nil, or_false] at hq; omega
  · exact putL_bd _ _ q hq
  · exact putL_bd _ _ q hq
theorem pass_on1 (g G N p : Nat) (w : World) (hc : Cur w g (.slice (some ⟨G, 0, none⟩) N N) p .nilIface) (hb : N ≤ 1048576) (hk : p + 1 ≤ N) :
    Calls Tryd.prog 67 #[.pointer (some ⟨g, 0, none⟩), .int .i64 1] w fun e w' => e = .returned (.slice (some ⟨G, p, none⟩) 1 (N - p)) ∧ Cur w' g (.slice (some ⟨G, 0, none⟩) N N) (p + 1) .nilIface ∧ w.grownBy w' (some g) := by
  have h := pass_ok g p N N G 0 1 w hc (by omega) hk (by omega) (Nat.le_refl _)
  rw [Nat.zero_add] at h
  exact h
theorem rep_one (done : List Int) (m : Nat) (h : 1 ≤ m) : done ++ List.replicate m 0 = (done ++ [0]) ++ List.replicate (m - 1) 0 := by
  obtain ⟨k, rfl⟩ : ∃ k, m = k + 1 := ⟨m - 1, by omega⟩
  rw [Nat.add_sub_cancel, List.append_assoc]
  rfl
set_option maxHeartbeats 8000000 in
theorem falseHead_walk (s d p l : Int) (w : World) :
    Calls Tryd.prog 81 #[.int .i64 s, .int .i64 d, .int .i64 p, .int .i64 l] w fun e w' => ∃ G : Nat, e = .returned (.slice (some ⟨G, 0, none⟩) 12 12) ∧ w.heap.size ≤ G ∧ RowB w' G (fhB s d p l) ∧ Below w.heap.size w w' := by
  have HW := hide (BoxV.start w #[.slice none 0 0, .int .i64 0, .nilIface] 69)
  have HC : Hid (Cur (w.alloc (.cells #[.slice none 0 0, .int .i64 0, .nilIface] 69)) w.heap.size (.slice none 0 0) 0 .nilIface) := hide HW.out.2.2
  have hgl := HC.out.lt
  have HB := hide HW.out.1
  clear HW
  have CM := hide (makeRoom_ok w.heap.size 0 (.slice none 0 0) 12 _ HC.out (by omega))
  go_enter Tryd.func81, Tryd.ntmps81
  go_wp2_with fail
  generalize w.alloc (.cells #[.slice none 0 0, .int .i64 0, .nilIface] 69) = W at *
  have hlt := HC.out.lt
  refine CM.out.mono ?_
  rintro e w0 ⟨rfl, hc, hr, hg⟩
  have HC0 := hide hc
  have HR0 : Hid (RowB w0 W.heap.size ([] ++ List.replicate 12 0)) := hide hr
  have HB0 := hide (HB.out.grown hg HB.out.size (fun k hk => by cases hk; exact Nat.le_refl _))
  clear CM hc hr hg HC HB
  generalize hG : W.heap.size = G at *
  generalize hgg : w.heap.size = g at *
  have HGG := hide hgg
  clear hG hgg
  have hg : g < G := hlt
  have C := hide (put_on4 g G 12 0 12 s ([]) _ HC0.out HR0.out hg rfl (by omega) (by omega) (by omega))
  go_wp2_with fail
  refine C.out.mono ?_
  rintro e w1 ⟨rfl, hc, hr, ho⟩
  have HC1 : Hid (Cur w1 g (.slice (some ⟨G, 0, none⟩) 12 12) 4 .nilIface) := hide hc
  have HR1 := hide hr
  have HO1 := hide ho
  clear C hc hr ho HC0 HR0
  have C := hide (put_on4 g G 12 4 8 d ([] ++ putL s 4) _ HC1.out HR1.out hg (by simp [putL_len]) (by omega) (by omega) (by omega))
  go_wp2_with fail
  refine C.out.mono ?_
  rintro e w2 ⟨rfl, hc, hr, ho⟩
  have HC2 : Hid (Cur w2 g (.slice (some ⟨G, 0, none⟩) 12 12) 8 .nilIface) := hide hc
  have HR2 := hide hr
  have HO2 := hide (HO1.out.trans ho)
  clear C hc hr ho HC1 HR1 HO1
  have C := hide (pass_on1 g G 12 8 w2 HC2.out (by omega) (by omega))
  go_wp2_with fail
  refine C.out.mono ?_
  rintro e w3 ⟨rfl, hc, ho⟩
  have HC3 : Hid (Cur w3 g (.slice (some ⟨G, 0, none⟩) 12 12) 9 .nilIface) := hide hc
  have hr := HR2.out.kept ho (by intro e; cases e; omega)
  rw [rep_one _ _ (by omega)] at hr
  have HR3 := hide hr
  have ho2 : Only [g, G] w2 w3 := (Only.of_some ho).mono (by simp)
  have HO3 := hide (HO2.out.trans ho2)
  clear C hc hr ho ho2 HC2 HR2 HO2
  have C := hide (put_on1 g G 12 9 3 p ([] ++ putL s 4 ++ putL d 4 ++ [0]) _ HC3.out HR3.out hg (by simp [putL_len]) (by omega) (by omega) (by omega))
  go_wp2_with fail
  refine C.out.mono ?_
  rintro e w4 ⟨rfl, hc, hr, ho⟩
  have HC4 : Hid (Cur w4 g (.slice (some ⟨G, 0, none⟩) 12 12) 10 .nilIface) := hide hc
  have HR4 := hide hr
  have HO4 := hide (HO3.out.trans ho)
  clear C hc hr ho HC3 HR3 HO3
  have C := hide (put_on2 g G 12 10 2 l ([] ++ putL s 4 ++ putL d 4 ++ [0] ++ putL p 1) _ HC4.out HR4.out hg (by simp [putL_len]) (by omega) (by omega) (by omega))
  go_wp2_with fail
  refine C.out.mono ?_
  rintro e w5 ⟨rfl, hc, hr, ho⟩
  have HC5 : Hid (Cur w5 g (.slice (some ⟨G, 0, none⟩) 12 12) 12 .nilIface) := hide hc
  have HR5 : Hid (RowB w5 G (fhB s d p l)) := hide (by
    rw [List.replicate_zero, List.append_nil, List.nil_append] at hr
    exact hr)
  have HO5 := hide (HO4.out.trans ho)
  clear C hc hr ho HC4 HR4 HO4
  obtain ⟨c0, c1, c2, cf⟩ := HC5.out.cells
  go_wp2_with fail
  go_ret
  have hgw := HGG.out
  have hbb := HB0.out.trans (Only.below HO5.out (by intro b hb; simp at hb; omega) (by have := HB0.out.size; omega))
  rw [← hgw] at hbb
  exact ⟨G, rfl, by omega, HR5.out, hbb⟩

theorem litb_own (w : World) (zs : List Int) (hz : ∀ z ∈ zs, 0 ≤ z ∧ z ≤ 255) (hm : zs.length ≤ 1048576) : OwnB (w.alloc (.cells (bval zs).toArray 5)) w.heap.size (.slice (some ⟨w.heap.size, 0, none⟩) zs.length zs.length) zs :=
  ⟨World.ownsRow_lit (base := w.heap.size) (e := 5) (size := 1) w (bval zs).toArray zs.length (Nat.le_refl _) (by unfold maxLen; omega) (by simp [bval]), hz⟩
theorem fhB_eq (s d p l : Int) : (putL s 4 ++ putL d 4) ++ [0, p % 256] ++ putL l 2 = fhB s d p l := by
  unfold fhB
  have e : putL p 1 = [p % 256] := by unfold putL byteOf; simp
  rw [e]
  simp
set_option maxHeartbeats 4000000 in
theorem specFH_walk (s d p l : Int) (w : World) :
    Calls Tryd.prog 78 #[.int .i64 s, .int .i64 d, .int .i64 p, .int .i64 l] w fun e w' => ∃ u : Value, e = .returned u ∧ OwnB w' w.heap.size u (fhB s d p l) ∧ Below w.heap.size w w' := by
  have C1 := hide (fun W => l03Put_any s 4 W (by omega))
  have C2 := hide (fun W => l03Put_any d 4 W (by omega))
  have C3 := hide (fun W => l03Put_any l 2 W (by omega))
  go_enter Tryd.func78, Tryd.ntmps78
  go_wp2_with fail
  refine (C1.out _).mono ?_
  rintro e w1 ⟨u1, rfl, hO1, hb1⟩
  have HO1 := hide hO1
  clear C1 hO1
  go_wp2_with fail
  refine (C2.out _).mono ?_
  rintro e w2 ⟨u2, rfl, hO2, hb2⟩
  have CJ := hide (l01Join_from u1 u2 _ _ w.heap.size _ _ w2 (Nat.le_trans hb1.size hb2.size) (HO1.out.next hb2) hO2 (by rw [putL_len]; omega) (by rw [putL_len]; omega))
  have HB2 := hide (hb1.trans (hb2.mono hb1.size))
  clear C2 hO2 HO1 hb1 hb2
  go_wp2_with fail
  refine CJ.out.mono ?_
  rintro e w3 ⟨u3, rfl, hO3, hb3⟩
  have HB3 := hide (HB2.out.trans (hb3.mono HB2.out.size))
  have HO3 := hide hO3
  clear CJ HB2 hO3 hb3
  have e1 : IntKind.u8.wrap p = p % 256 := IntKind.wrap_u8 p
  have hL : OwnB (w3.alloc (.cells #[.int .u8 0, .int .u8 (p % 256)] 5)) w3.heap.size (.slice (some ⟨w3.heap.size, 0, none⟩) 2 2) [0, p % 256] := litb_own w3 [0, p % 256] (by intro z hz; simp at hz; omega) (by simp)
  have hbl := (Below.refl w3.heap.size w3).alloc (Nat.le_refl _) (.cells #[.int .u8 0, .int .u8 (p % 256)] 5)
  have CJ := hide (l01Join_from u3 (.slice (some ⟨w3.heap.size, 0, none⟩) 2 2) _ _ w.heap.size _ _ _ (Nat.le_trans HB3.out.size hbl.size) (HO3.out.next hbl) hL (by rw [List.length_append, putL_len, putL_len]; omega) (by simp))
  have HB4 := hide (HB3.out.trans (hbl.mono HB3.out.size))
  clear hL hbl HB3 HO3
  go_wp2_with fail
  refine CJ.out.mono ?_
  rintro e w4 ⟨u4, rfl, hO4, hb4⟩
  have HB5 := hide (HB4.out.trans (hb4.mono HB4.out.size))
  have HO4 := hide hO4
  clear CJ HB4 hO4 hb4
  go_wp2_with fail
  refine (C3.out _).mono ?_
  rintro e w5 ⟨u5, rfl, hO5, hb5⟩
  have CJ := hide (l01Join_from u4 u5 _ _ w.heap.size _ _ w5 (Nat.le_trans HB5.out.size hb5.size) (HO4.out.next hb5) hO5 (by simp [putL_len]) (by rw [putL_len]; omega))
  have HB6 := hide (HB5.out.trans (hb5.mono HB5.out.size))
  clear C3 HB5 HO4 hO5 hb5
  go_wp2_with fail
  refine CJ.out.mono ?_
  rintro e w6 ⟨u6, rfl, hO6, hb6⟩
  have HB7 := hide (HB6.out.trans (hb6.mono HB6.out.size))
  rw [fhB_eq] at hO6
  have HO6 := hide hO6
  clear CJ HB6 hO6 hb6
  go_wp2_with fail
  go_ret
  exact ⟨u6, rfl, HO6.out, HB7.out⟩
end Go.Proofs.YtakoagfeiolkjabDoor
