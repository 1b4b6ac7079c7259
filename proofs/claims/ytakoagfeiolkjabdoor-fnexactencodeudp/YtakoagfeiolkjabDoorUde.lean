/-
Contracts of functions of this seat.
-/
import Derived.Test.YtakoagfeiolkjabDoorRows
import Derived.WalkKit
import Derived.ProofKit
import Derived.OpenShut
import Derived.Test.YtakoagfeiolkjabDoorUds
namespace Go.Proofs.YtakoagfeiolkjabDoor
open Go.ChangeShapes Go.WideShapes Go.ChangeAt Go.RowKit
set_option linter.unusedVariables false
set_option maxRecDepth 100000
def udOK (p q s d : Int) : Bool := inB p 0 65535 && inB q 0 65535 && adrB s && adrB d
def udC (p q s d : Int) (n : Nat) : Int := if udOK p q s d then (if 65507 < n then 7 else 0) else 1
/-- A datagram's bytes, its sum not yet in it. -/
def udH (p q : Int) (z : List Int) : List Int := putL p 2 ++ putL q 2 ++ putL (8 + (z.length : Int)) 2 ++ [0, 0] ++ z
def udT (p q s d : Int) (z : List Int) : List Int := ((udH p q z).set 6 (udW (fsum s d 17 (udH p q z)) / 256)).set 7 (udW (fsum s d 17 (udH p q z)) % 256)
def udL (p q s d : Int) (z : List Int) : List Int := if udC p q s d z.length = 0 then udT p q s d z else []
theorem udH_len (p q : Int) (z : List Int) : (udH p q z).length = 8 + z.length := by unfold udH; simp [putL_len]; omega
theorem udH_bd (p q : Int) (z : List Int) (h : ∀ x ∈ z, 0 ≤ x ∧ x ≤ 255) : ∀ x ∈ udH p q z, 0 ≤ x ∧ x ≤ 255 := by
  intro x hx
  unfold udH at hx
  simp only [List.mem_append] at hx
  rcases hx with (((hx | hx) | hx) | hx) | hx
  · exact putL_bd _ _ x hx
  · exact putL_bd _ _ x hx
  · exact putL_bd _ _ x hx
  · simp only [List.mem_cons, List.not_mem_nil, or_false] at hx; omega
  · exact h x hx
theorem udL_len (p q s d : Int) (z : List Int) : (udL p q s d z).length ≤ 1048576 := by
  unfold udL
  split
  · rename_i h
    unfold udT
    rw [List.length_set, List.length_set, udH_len]
    unfold udC at h
    split at h
    · split at h
      · cases h
      · omega
    · cases h
  · simp
theorem udOK_parts {p q s d : Int} (h : udOK p q s d = true) : inB p 0 65535 = true ∧ inB q 0 65535 = true ∧ adrB s = true ∧ adrB d = true := by
  unfold udOK at h
  simp only [Bool.and_eq_true] at h
  exact ⟨h.1.1.1, h.1.1.2, h.1.2, h.2⟩
set_option maxHeartbeats 4000000 in
theorem specEncU_form (p q s d : Int) (a : Option Addr) (n cap : Nat) (w : World) (h : udOK p q s d = false) :
    Calls Tryd.prog 30 #[.agg #[.int .i64 p, .int .i64 q, .slice a n cap], .int .i64 s, .int .i64 d] w fun e w' => e = .returned (.tuple #[.slice none 0 0, .int .i64 1]) ∧ Below w.heap.size w w' := by
  have HB := hide (BoxDatagram.start w p q (.slice a n cap) 36)
  obtain ⟨_, _, k0, k1, k2⟩ := HB.out
  cases h0 : inB p 0 65535 with
  | false =>
    clear h
    go_enter Tryd.func30, Tryd.ntmps30
    go_wp2_with (first | (go_at_call 64; refine (specPort_walk _ _).mono ?_; rintro e w' ⟨rfl, rfl⟩) | (go_at_call 46; refine (specAddrOK_walk _ _).mono ?_; rintro e w' ⟨rfl, rfl⟩))
    go_ret2
    exact ⟨rfl, HB.out.1⟩
  | true =>
    cases h1 : inB q 0 65535 with
    | false =>
      clear h
      go_enter Tryd.func30, Tryd.ntmps30
      go_wp2_with (first | (go_at_call 64; refine (specPort_walk _ _).mono ?_; rintro e w' ⟨rfl, rfl⟩) | (go_at_call 46; refine (specAddrOK_walk _ _).mono ?_; rintro e w' ⟨rfl, rfl⟩))
      go_ret2
      exact ⟨rfl, HB.out.1⟩
    | true =>
      cases h2 : adrB s with
      | false =>
        clear h
        go_enter Tryd.func30, Tryd.ntmps30
        go_wp2_with (first | (go_at_call 64; refine (specPort_walk _ _).mono ?_; rintro e w' ⟨rfl, rfl⟩) | (go_at_call 46; refine (specAddrOK_walk _ _).mono ?_; rintro e w' ⟨rfl, rfl⟩))
        go_ret2
        exact ⟨rfl, HB.out.1⟩
      | true =>
        have h3 : adrB d = false := by unfold udOK at h; rw [h0, h1, h2] at h; simpa using h
        clear h
        go_enter Tryd.func30, Tryd.ntmps30
        go_wp2_with (first | (go_at_call 64; refine (specPort_walk _ _).mono ?_; rintro e w' ⟨rfl, rfl⟩) | (go_at_call 46; refine (specAddrOK_walk _ _).mono ?_; rintro e w' ⟨rfl, rfl⟩))
        go_ret2
        exact ⟨rfl, HB.out.1⟩
set_option maxHeartbeats 4000000 in
theorem specEncU_size (p q s d : Int) (a : Option Addr) (n cap : Nat) (w : World) (h : udOK p q s d = true) (hn : 65507 < n) (hm : n ≤ 1048576) :
    Calls Tryd.prog 30 #[.agg #[.int .i64 p, .int .i64 q, .slice a n cap], .int .i64 s, .int .i64 d] w fun e w' => e = .returned (.tuple #[.slice none 0 0, .int .i64 7]) ∧ Below w.heap.size w w' := by
  have HB := hide (BoxDatagram.start w p q (.slice a n cap) 36)
  obtain ⟨_, _, k0, k1, k2⟩ := HB.out
  obtain ⟨h0, h1, h2, h3⟩ := udOK_parts h
  have hn' : (65507 : Int) < (n : Int) := by omega
  clear h
  go_enter Tryd.func30, Tryd.ntmps30
  go_wp2_with (first | (go_at_call 64; refine (specPort_walk _ _).mono ?_; rintro e w' ⟨rfl, rfl⟩) | (go_at_call 46; refine (specAddrOK_walk _ _).mono ?_; rintro e w' ⟨rfl, rfl⟩))
  go_ret2
  exact ⟨rfl, HB.out.1⟩
theorem put2w (v : Int) (w : World) :
    Calls Tryd.prog 39 #[.int .i64 v, .int .i64 2] w fun e w' => ∃ u : Value, e = .returned u ∧ OwnB w' w.heap.size u (putL v 2) ∧ Below w.heap.size w w' := l03Put_any v 2 w (by omega)
theorem lit2_own (w : World) (p q : Int) (h : ∀ z ∈ [p, q], 0 ≤ z ∧ z ≤ 255) : OwnB (w.alloc (.cells #[.int .u8 p, .int .u8 q] 5)) w.heap.size (.slice (some ⟨w.heap.size, 0, none⟩) 2 2) [p, q] := lit_own w _ h (by simp)
set_option maxHeartbeats 8000000 in
theorem specEncU_ok (p q s d : Int) (a : Option Addr) (n cap : Nat) (z : List Int) (w : World) (h : udOK p q s d = true) (hn : n ≤ 65507) (hz : z.length = n) (ha : Arr w a z) :
    Calls Tryd.prog 30 #[.agg #[.int .i64 p, .int .i64 q, .slice a n cap], .int .i64 s, .int .i64 d] w fun e w' => ∃ v : Value, e = .returned (.tuple #[v, .int .i64 0]) ∧ OwnB w' w.heap.size v (udT p q s d z) ∧ Below w.heap.size w w' := by
  have HB := hide (BoxDatagram.start w p q (.slice a n cap) 36)
  obtain ⟨_, _, k0, k1, k2⟩ := HB.out
  obtain ⟨h0, h1, h2, h3⟩ := udOK_parts h
  have hn' : ¬ (65507 : Int) < (n : Int) := by omega
  have HN := hide hz
  have HA := hide ha
  generalize hT : udT p q s d z = TT
  have HT := hide hT
  clear h hz ha hT
  go_enter Tryd.func30, Tryd.ntmps30
  go_wp2_with (first | (go_at_call 64; refine (specPort_walk _ _).mono ?_; rintro e w' ⟨rfl, rfl⟩) | (go_at_call 46; refine (specAddrOK_walk _ _).mono ?_; rintro e w' ⟨rfl, rfl⟩))
  clear h0 h1 h2 h3
  generalize w.alloc (.cells #[.int .i64 p, .int .i64 q, .slice a n cap] 36) = W0 at *
  go_region_held3 (fun w' => BoxDatagram w w' p q (.slice a n cap)) (with_reducible first | assumption | exact HB.out.drew | exact BoxDatagram.next (by assumption) hb3 | exact BoxDatagram.next (by assumption) hb2 | exact BoxDatagram.next (by assumption) hb1)
    (first
      | (go_at_call 39; first | (have := hO1; refine (put2w q _).mono ?_; rintro e w' ⟨u2, rfl, hO2, hb2⟩) | (refine (put2w p _).mono ?_; rintro e w' ⟨u1, rfl, hO1, hb1⟩))
      | (go_at_call 38; refine (l01Join_from _ _ _ _ w.heap.size _ _ _ (Nat.le_of_lt (by with_reducible assumption : BoxDatagram w _ p q (.slice a n cap)).2.1) (hO1.next hb2) hO2 (by rw [putL_len]; omega) (by rw [putL_len]; omega)).mono ?_; rintro e w' ⟨u3, rfl, hO3, hb3⟩))
  all_goals
    rename World => w3
    have HB3 : Hid (BoxDatagram w w3 p q (.slice a n cap)) := hide (by assumption)
    have HO3 := hide hO3
    clear hO3 hO2 hO1 hb1 hb2 hb3 HB k0 k1 k2
    obtain ⟨_, _, k0, k1, k2⟩ := HB3.out
    have e8 : IntKind.i64.wrap (8 + (n : Int)) = 8 + (n : Int) := by rw [IntKind.wrap_i64]; omega
    have C4 := hide (fun W => put2w (8 + (n : Int)) W)
    go_wp2_with fail
    refine (C4.out _).mono ?_
    rintro e w4 ⟨u4, rfl, hO4, hb4⟩
    have HB4 := hide (HB3.out.next hb4)
    have C5 := hide (l01Join_from u3 u4 _ _ w.heap.size _ _ w4 HB4.out.1.size (HO3.out.next hb4) hO4 (by rw [List.length_append, putL_len, putL_len]; omega) (by rw [putL_len]; omega))
    clear hO4 hb4 HB3 HO3 C4 k0 k1 k2
    go_wp2_with fail
    refine C5.out.mono ?_
    rintro e w5 ⟨u5, rfl, hO5, hb5⟩
    have HB5 := hide (HB4.out.next hb5)
    have HO5 := hide hO5
    clear hO5 hb5 HB4 C5
    obtain ⟨_, _, k0, k1, k2⟩ := HB5.out
    have HZ2 : Hid (∀ x ∈ [(0 : Int), 0], 0 ≤ x ∧ x ≤ 255) := hide (by intro x hx; simp at hx; omega)
    have HBa : Hid (BoxDatagram w (w5.drew.alloc (.cells #[.int .u8 0, .int .u8 0] 5)) p q (.slice a n cap)) := hide (HB5.out.drew.next ((Below.refl _ _).alloc (Nat.le_refl _) _))
    have HOa : Hid (OwnB (w5.drew.alloc (.cells #[.int .u8 0, .int .u8 0] 5)) w.heap.size u5 _) := hide (HO5.out.drew.next ((Below.refl _ _).alloc (Nat.le_refl _) _))
    have HLa := hide (lit2_own w5.drew 0 0 HZ2.out)
    have HBb : Hid (BoxDatagram w (w5.alloc (.cells #[.int .u8 0, .int .u8 0] 5)).drew p q (.slice a n cap)) := hide (HB5.out.next ((Below.refl _ _).alloc (Nat.le_refl _) _)).drew
    have HOb : Hid (OwnB (w5.alloc (.cells #[.int .u8 0, .int .u8 0] 5)).drew w.heap.size u5 _) := hide (HO5.out.next ((Below.refl _ _).alloc (Nat.le_refl _) _)).drew
    have HLb := hide (lit2_own w5 0 0 HZ2.out).drew
    go_wp2_with fail
    go_region_held3 (fun w' => BoxDatagram w w' p q (.slice a n cap)) (with_reducible first | assumption | exact HB5.out.drew | exact HBa.out | exact HBb.out | exact BoxDatagram.next (by assumption) hb7 | exact BoxDatagram.next HBb.out hb6 | exact BoxDatagram.next HBa.out hb6 | exact BoxDatagram.next (by assumption) hb6)
      (first
        | (go_at_call 38; first
            | (have := hO6; refine (l01Join_arr _ a n cap _ w.heap.size _ z _ (by with_reducible assumption : BoxDatagram w _ p q (.slice a n cap)).1.size hO6 HN.out (HA.out.below (by with_reducible assumption : BoxDatagram w _ p q (.slice a n cap)).1 (Nat.le_refl _)) (by simp [putL_len]) (by omega)).mono ?_; rintro e w' ⟨u7, rfl, hO7, hb7⟩)
            | (refine (l01Join_from _ _ _ _ w.heap.size _ _ _ HBa.out.1.size HOa.out HLa.out (by simp [putL_len]) (by simp)).mono ?_; rintro e w' ⟨u6, rfl, hO6, hb6⟩)
            | (refine (l01Join_from _ _ _ _ w.heap.size _ _ _ HBb.out.1.size HOb.out HLb.out (by simp [putL_len]) (by simp)).mono ?_; rintro e w' ⟨u6, rfl, hO6, hb6⟩)))
    all_goals
      rename World => w7
      have HB7 : Hid (BoxDatagram w w7 p q (.slice a n cap)) := hide (by assumption)
      have HO7 := hide hO7
      clear hO7 hO6 hb6 hb7 HB5 HO5 k0 k1 k2
      have hO7 := HO7.out
      have hH : putL p 2 ++ putL q 2 ++ putL (8 + (n : Int)) 2 ++ [0, 0] ++ z = udH p q z := by unfold udH; rw [HN.out]
      rw [hH] at hO7
      have hlen : (udH p q z).length = 8 + n := by rw [udH_len, HN.out]
      have hT := HT.out
      unfold udT at hT
      clear HO7 hH
      generalize udH p q z = R at *
      have hr0 : 8 ≤ R.length := by omega
      have hr1 : R.length ≤ 65515 := by omega
      clear hlen HLa HLb HOa HOb HBa HBb
      obtain ⟨g, cp, rfl, hg0, hg1⟩ := hO7.form (by omega)
      have HO := hide hO7
      have hbd := fsum_bd s d 17 R hO7.2
      have CC := hide (l10Sum_walk (some ⟨g, 0, none⟩) R.length cp s d 17 R w7 rfl (own_arr hO7).1 (by omega))
      clear hO7
      generalize fsum s d 17 R = S at *
      have hbw := udW_bd hbd
      have HT2 := hide hT
      clear hT HT
      obtain ⟨sb0, sb1⟩ := hbd
      go_wp2_with fail
      refine CC.out.mono ?_
      rintro e w9 ⟨rfl, hb9⟩
      have HO9 := hide (HO.out.next hb9)
      have HB9 := hide (HB7.out.next hb9)
      clear hb9 CC HO HB7
      have hl6 : (6 : Int) < (R.length : Int) := by omega
      have hl7 : (7 : Int) < (R.length : Int) := by omega
      have f0 : ∀ o, w9.frozen? ⟨g, o, none⟩ = false := fun o => HO9.out.1.frozenAt o
      have q6 : w9.cell? ⟨g, 6, none⟩ = some (.int .u8 (R.getD 6 0)) := by rw [HO9.out.1.cellAt 6 (by omega)]; exact bval_get R 6 (by omega)
      have q7 : w9.cell? ⟨g, 7, none⟩ = some (.int .u8 (R.getD 7 0)) := by rw [HO9.out.1.cellAt 7 (by omega)]; exact bval_get R 7 (by omega)
      have o1 := fun (S : Int) (h1 : 0 ≤ S) (h2 : S ≤ 65535) => HO9.out.store rfl 6 (S / 256) (by omega) (by omega)
      have HO1 := hide o1
      have hbe : ∀ S : Int, Below w.heap.size w ((w9.setCell ⟨g, 6, none⟩ (.int .u8 (S / 256))).setCell ⟨g, 7, none⟩ (.int .u8 (S % 256))) := fun S => (HB9.out.1.setCell (p := ⟨g, 6, none⟩) hg0 _).setCell (p := ⟨g, 7, none⟩) hg0 _
      have HBE := hide hbe
      clear o1 hbe
      by_cases h0 : S = 0
      · have hb0 : (S == 0) = true := by rw [h0]; rfl
        have hw0 : udW S = 65535 := by unfold udW; rw [if_pos h0]
        rw [hw0] at HT2
        clear hw0 hbw h0
        go_wp2_with fail
        have o1 := HO1.out 65535 (by omega) (by omega)
        have o2 := o1.1.store (by rw [List.length_set]) 7 ((65535 : Int) % 256) (by omega) (by omega)
        have hbe := HBE.out 65535
        go_ret2
        exact ⟨_, rfl, by rw [← HT2.out]; exact o2.1, hbe⟩
      · have hb0 : (S == 0) = false := by simpa using h0
        have hw0 : udW S = S := by unfold udW; rw [if_neg h0]
        rw [hw0] at HT2
        clear hw0 hbw h0
        have s1 : S / 256 < 256 := by omega
        have s2 : 0 ≤ S / 256 := by omega
        go_wp2_with fail
        have o1 := HO1.out S sb0 sb1
        have o2 := o1.1.store (by rw [List.length_set]) 7 (S % 256) (by omega) (by omega)
        have hbe := HBE.out S
        go_ret2
        exact ⟨_, rfl, by rw [← HT2.out]; exact o2.1, hbe⟩
end Go.Proofs.YtakoagfeiolkjabDoor
