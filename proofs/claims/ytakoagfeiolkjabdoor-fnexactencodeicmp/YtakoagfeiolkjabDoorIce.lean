/-
Contracts of functions of this seat.
-/
import Derived.Test.YtakoagfeiolkjabDoorRows
import Derived.WalkKit
import Derived.ProofKit
import Derived.OpenShut
import Derived.Test.YtakoagfeiolkjabDoorSti
import Derived.Test.YtakoagfeiolkjabDoorIpe
namespace Go.Proofs.YtakoagfeiolkjabDoor
open Go.ChangeShapes Go.WideShapes Go.ChangeAt Go.RowKit
set_option linter.unusedVariables false
set_option maxRecDepth 100000
/-- An Icmp's bytes, its sum not yet in it. -/
def icH (t c r : Int) (z : List Int) : List Int := [t, c, 0, 0] ++ putL r 4 ++ z
def icOK (t c r : Int) : Bool := inB t 0 255 && inB c 0 255 && inB r 0 4294967295
def icC (t c r : Int) (n : Nat) : Int := if icOK t c r then (if 65000 < n then 7 else 0) else 1
def icL (t c r : Int) (z : List Int) : List Int := if icC t c r z.length = 0 then ((icH t c r z).set 2 (csum (icH t c r z) / 256)).set 3 (csum (icH t c r z) % 256) else []
theorem icH_len (t c r : Int) (z : List Int) : (icH t c r z).length = 8 + z.length := by unfold icH; simp [putL_len]; omega
theorem icL_len (t c r : Int) (z : List Int) : (icL t c r z).length ≤ 1048576 := by
  unfold icL
  split
  · rename_i h
    rw [List.length_set, List.length_set, icH_len]
    unfold icC at h
    split at h
    · split at h
      · cases h
      · omega
    · cases h
  · simp
set_option maxHeartbeats 4000000 in
theorem specEncIcmp_form (t c r : Int) (a : Option Addr) (n cap : Nat) (w : World) (h : icOK t c r = false) :
    Calls Tryd.prog 9 #[.agg #[.int .i64 t, .int .i64 c, .int .i64 r, .slice a n cap]] w fun e w' => e = .returned (.tuple #[.slice none 0 0, .int .i64 1]) ∧ Below w.heap.size w w' := by
  have HB := hide (BoxIcmp.start w t c r (.slice a n cap) 28)
  obtain ⟨_, _, k0, k1, k2, k3⟩ := HB.out
  cases h0 : inB t 0 255 with
  | false =>
    clear h
    go_enter Tryd.func9, Tryd.ntmps9
    go_wp2_with (first | (go_at_call 37; refine (In_walk _ _ _ _).mono ?_; rintro e w' ⟨rfl, rfl⟩))
    go_ret2
    exact ⟨rfl, HB.out.1⟩
  | true =>
    cases h1 : inB c 0 255 with
    | false =>
      clear h
      go_enter Tryd.func9, Tryd.ntmps9
      go_wp2_with (first | (go_at_call 37; refine (In_walk _ _ _ _).mono ?_; rintro e w' ⟨rfl, rfl⟩))
      go_ret2
      exact ⟨rfl, HB.out.1⟩
    | true =>
      have h2 : inB r 0 4294967295 = false := by unfold icOK at h; rw [h0, h1] at h; simpa using h
      clear h
      go_enter Tryd.func9, Tryd.ntmps9
      go_wp2_with (first | (go_at_call 37; refine (In_walk _ _ _ _).mono ?_; rintro e w' ⟨rfl, rfl⟩))
      go_ret2
      exact ⟨rfl, HB.out.1⟩
theorem icOK_parts {t c r : Int} (h : icOK t c r = true) : inB t 0 255 = true ∧ inB c 0 255 = true ∧ inB r 0 4294967295 = true := by
  unfold icOK at h
  simp only [Bool.and_eq_true] at h
  exact ⟨h.1.1, h.1.2, h.2⟩
set_option maxHeartbeats 4000000 in
theorem specEncIcmp_size (t c r : Int) (a : Option Addr) (n cap : Nat) (w : World) (h : icOK t c r = true) (hn : 65000 < n) (hm : n ≤ 1048576) :
    Calls Tryd.prog 9 #[.agg #[.int .i64 t, .int .i64 c, .int .i64 r, .slice a n cap]] w fun e w' => e = .returned (.tuple #[.slice none 0 0, .int .i64 7]) ∧ Below w.heap.size w w' := by
  have HB := hide (BoxIcmp.start w t c r (.slice a n cap) 28)
  obtain ⟨_, _, k0, k1, k2, k3⟩ := HB.out
  obtain ⟨h0, h1, h2⟩ := icOK_parts h
  have hn' : (65000 : Int) < (n : Int) := by omega
  clear h
  go_enter Tryd.func9, Tryd.ntmps9
  go_wp2_with (first | (go_at_call 37; refine (In_walk _ _ _ _).mono ?_; rintro e w' ⟨rfl, rfl⟩))
  go_ret2
  exact ⟨rfl, HB.out.1⟩
theorem lit4_own (w : World) (p q r s : Int) (h : ∀ z ∈ [p, q, r, s], 0 ≤ z ∧ z ≤ 255) : OwnB (w.alloc (.cells #[.int .u8 p, .int .u8 q, .int .u8 r, .int .u8 s] 5)) w.heap.size (.slice (some ⟨w.heap.size, 0, none⟩) 4 4) [p, q, r, s] := lit_own w _ h (by simp)
theorem BoxIcmp.b {w0 w : World} {x0 x1 x2 : Int} {v0 : Value} (h : BoxIcmp w0 w x0 x1 x2 v0) : Below w0.heap.size w0 w := h.1
set_option maxHeartbeats 4000000 in
theorem specEncIcmp_ok (t c r : Int) (a : Option Addr) (n cap : Nat) (z : List Int) (w : World) (h : icOK t c r = true) (hn : n ≤ 65000) (hz : z.length = n) (ha : Arr w a z) :
    Calls Tryd.prog 9 #[.agg #[.int .i64 t, .int .i64 c, .int .i64 r, .slice a n cap]] w fun e w' => ∃ v : Value, e = .returned (.tuple #[v, .int .i64 0]) ∧ OwnB w' w.heap.size v (((icH t c r z).set 2 (csum (icH t c r z) / 256)).set 3 (csum (icH t c r z) % 256)) ∧ Below w.heap.size w w' := by
  have HB := hide (BoxIcmp.start w t c r (.slice a n cap) 28)
  obtain ⟨_, _, k0, k1, k2, k3⟩ := HB.out
  obtain ⟨h0, h1, h2⟩ := icOK_parts h
  obtain ⟨t0, t1⟩ := inB_iff.1 h0
  obtain ⟨c0, c1⟩ := inB_iff.1 h1
  have HR := hide (inB_iff.1 h2).1
  have hn' : ¬ (65000 : Int) < (n : Int) := by omega
  have HN := hide hz
  have HA := hide ha
  generalize hT : ((icH t c r z).set 2 (csum (icH t c r z) / 256)).set 3 (csum (icH t c r z) % 256) = TT
  have HT := hide hT
  clear h hz ha hT
  go_enter Tryd.func9, Tryd.ntmps9
  go_wp2_with (first | (go_at_call 37; refine (In_walk _ _ _ _).mono ?_; rintro e w' ⟨rfl, rfl⟩))
  have hbl : ∀ q ∈ [t, c, 0, 0], 0 ≤ q ∧ q ≤ 255 := by intro q hq; simp only [List.mem_cons, List.not_mem_nil, or_false] at hq; rcases hq with rfl | rfl | rfl | rfl <;> omega
  have HBL := hide hbl
  have e1 : IntKind.u8.wrap t = t := by rw [IntKind.wrap_u8]; omega
  have e2 : IntKind.u8.wrap c = c := by rw [IntKind.wrap_u8]; omega
  clear hbl h0 h1 h2
  generalize w.alloc (.cells #[.int .i64 t, .int .i64 c, .int .i64 r, .slice a n cap] 28) = W0 at *
  have HL0 : Hid (OwnB (W0.alloc (.cells #[.int .u8 t, .int .u8 c, .int .u8 0, .int .u8 0] 5)).drew W0.heap.size (.slice (some ⟨W0.heap.size, 0, none⟩) 4 4) [t, c, 0, 0]) := hide (lit_own W0 [t, c, 0, 0] HBL.out (by simp)).drew
  go_region_held3 (fun w' => BoxIcmp w w' t c r (.slice a n cap)) (with_reducible first | assumption | exact HB.out.drew | exact BoxIcmp.next (by assumption) hbj | exact BoxIcmp.next (by assumption) hbo | exact BoxIcmp.next (by assumption) ((Below.refl _ _).alloc (Nat.le_refl _) _))
    (first
      | (go_at_call 39; refine (putw4 r _ HR.out).mono ?_; rintro e w' ⟨uo, rfl, hOo, hbo⟩)
      | (go_at_call 38; first | (refine (l01Join_from _ _ _ _ w.heap.size _ _ _ (Nat.le_of_lt (by with_reducible assumption : BoxIcmp w _ t c r (.slice a n cap)).2.1) (HL0.out.next hbo) hOo (by simp) (by rw [putL_len]; omega)).mono ?_; rintro e w' ⟨uj, rfl, hOj, hbj⟩) | (refine (l01Join_from _ _ _ _ w.heap.size _ _ _ (Nat.le_of_lt (by with_reducible assumption : BoxIcmp w _ t c r (.slice a n cap)).2.1) (lit4_own _ t c 0 0 HBL.out) (hOo.next ((Below.refl _ _).alloc (Nat.le_refl _) _)) (by simp) (by rw [putL_len]; omega)).mono ?_; rintro e w' ⟨uj, rfl, hOj, hbj⟩)))
  all_goals
    rename World => w2
    have HB2 : Hid (BoxIcmp w w2 t c r (.slice a n cap)) := hide (by assumption)
    have HO2 := hide hOj
    clear hOj hOo hbj hbo HL0 HB k0 k1 k2 k3
    obtain ⟨_, _, k0, k1, k2, k3⟩ := HB2.out
    go_wp2_with fail
    refine (l01Join_arr _ a n cap _ w.heap.size _ z _ HB2.out.1.size HO2.out HN.out (HA.out.below HB2.out.1 (Nat.le_refl _)) (by rw [List.length_append, putL_len]; simp) (by omega)).mono ?_
    rintro e w8 ⟨u8, rfl, hO, hb⟩
    have HB8 := hide (HB2.out.next hb)
    have hlen : ([t, c, 0, 0] ++ putL r 4 ++ z).length = 8 + n := by rw [← HN.out]; exact icH_len t c r z
    have hT := HT.out
    rw [show icH t c r z = [t, c, 0, 0] ++ putL r 4 ++ z from rfl] at hT
    clear hb HO2 HB2 k0 k1 k2 k3
    generalize [t, c, 0, 0] ++ putL r 4 ++ z = R at *
    have hr0 : 8 ≤ R.length := by omega
    have hr1 : R.length ≤ 65008 := by omega
    clear hlen
    obtain ⟨g, cp, rfl, hg0, hg1⟩ := hO.form (by omega)
    have HO := hide hO
    have hbd := csum_bd R hO.2
    have CC : Hid (Calls Tryd.prog 40 #[.slice (some ⟨g, 0, none⟩) R.length cp] w8 fun e w' => e = .returned (.int .i64 (csum R)) ∧ w' = w8) := hide (specChecksum_walk (some ⟨g, 0, none⟩) R.length cp R w8 rfl (own_arr hO).1 (by omega))
    clear hO
    generalize csum R = S at *
    have HT2 := hide hT
    clear hT HT
    obtain ⟨sb0, sb1⟩ := hbd
    go_wp2_with fail
    refine CC.out.mono ?_
    rintro e w9 ⟨rfl, hw9⟩
    rw [hw9]
    clear hw9 CC
    have s1 : S / 256 < 256 := by omega
    have s2 : 0 ≤ S / 256 := by omega
    have hl2 : (2 : Int) < (R.length : Int) := by omega
    have hl3 : (3 : Int) < (R.length : Int) := by omega
    have f0 : ∀ o, w8.frozen? ⟨g, o, none⟩ = false := fun o => HO.out.1.frozenAt o
    have q2 : w8.cell? ⟨g, 2, none⟩ = some (.int .u8 (R.getD 2 0)) := by rw [HO.out.1.cellAt 2 (by omega)]; exact bval_get R 2 (by omega)
    have q3 : w8.cell? ⟨g, 3, none⟩ = some (.int .u8 (R.getD 3 0)) := by rw [HO.out.1.cellAt 3 (by omega)]; exact bval_get R 3 (by omega)
    go_wp2_with fail
    have o1 := HO.out.store rfl 2 (S / 256) s2 (by omega)
    have o2 := o1.1.store (by rw [List.length_set]) 3 (S % 256) (by omega) (by omega)
    have hbe : Below w.heap.size w ((w8.setCell ⟨g, 2, none⟩ (.int .u8 (S / 256))).setCell ⟨g, 3, none⟩ (.int .u8 (S % 256))) := (HB8.out.1.setCell (p := ⟨g, 2, none⟩) hg0 _).setCell (p := ⟨g, 3, none⟩) hg0 _
    go_ret2
    exact ⟨_, rfl, by rw [← HT2.out]; exact o2.1, hbe⟩
/-- EncodeIcmp of the model. -/
theorem specEncIcmp (t c r : Int) (z : List Int) (Pre : World → Prop) : EncIcmpP 9 Pre t c r z (icL t c r z) (icC t c r z.length) := by
  intro a n cap W hn ha _ hm _
  subst hn
  have bad : ∀ q : Int, icC t c r z.length = q → ¬ q = 0 → ∀ e w', e = Ending.returned (.tuple #[.slice none 0 0, .int .i64 q]) ∧ Below W.heap.size W w' → ∃ v : Value, e = .returned (.tuple #[v, .int .i64 (icC t c r z.length)]) ∧ OwnB w' W.heap.size v (icL t c r z) ∧ Below W.heap.size W w' := by
    rintro q hq h0 e w' ⟨rfl, hb⟩
    refine ⟨_, by rw [hq], ?_, hb⟩
    unfold icL
    rw [hq, if_neg h0]
    exact ⟨World.ownsRow_nil _ _ _ _, by simp⟩
  cases h : icOK t c r with
  | false => exact (specEncIcmp_form t c r a _ cap W h).mono (bad 1 (by unfold icC; rw [h]; rfl) (by decide))
  | true =>
    by_cases hs : 65000 < z.length
    · exact (specEncIcmp_size t c r a _ cap W h hs hm).mono (bad 7 (by unfold icC; rw [h, if_pos rfl, if_pos hs]) (by decide))
    · have hC : icC t c r z.length = 0 := by unfold icC; rw [h, if_pos rfl, if_neg hs]
      refine (specEncIcmp_ok t c r a _ cap z W h (by omega) rfl ha).mono ?_
      rintro e w' ⟨v, rfl, hO, hb⟩
      exact ⟨v, by rw [hC], by unfold icL; rw [hC, if_pos rfl]; exact hO, hb⟩
end Go.Proofs.YtakoagfeiolkjabDoor
