/-
Contracts of functions of this seat.
-/
import Derived.Test.YtakoagfeiolkjabDoorRows
import Derived.WalkKit
import Derived.ProofKit
import Derived.OpenShut
import Derived.Test.YtakoagfeiolkjabDoorFhi
import Derived.Test.YtakoagfeiolkjabDoorIps
namespace Go.Proofs.YtakoagfeiolkjabDoor
open Go.ChangeShapes Go.WideShapes Go.ChangeAt Go.RowKit
set_option linter.unusedVariables false
set_option maxRecDepth 100000
theorem isPort_walk (a : Int) (w : World) :
    Calls Tryd.prog 65 #[.int .i64 a] w fun e w' => e = .returned (.bool (inB a 0 65535)) ∧ w' = w := by
  by_cases h1 : 0 ≤ a
  · by_cases h2 : a ≤ 65535
    · have e := hide (inB_iff.2 ⟨h1, h2⟩)
      go_enter Tryd.func65, Tryd.ntmps65
      go_wp2
      go_ret
      exact ⟨ret_bool e.out.symm, rfl⟩
    · have e : Hid (inB a 0 65535 = false) := hide (by unfold inB; simp; omega)
      go_enter Tryd.func65, Tryd.ntmps65
      go_wp2
      go_ret
      exact ⟨ret_bool e.out.symm, rfl⟩
  · have e : Hid (inB a 0 65535 = false) := hide (by unfold inB; simp; omega)
    go_enter Tryd.func65, Tryd.ntmps65
    go_wp2
    go_ret
    exact ⟨ret_bool e.out.symm, rfl⟩
theorem specPort_walk (a : Int) (w : World) :
    Calls Tryd.prog 64 #[.int .i64 a] w fun e w' => e = .returned (.bool (inB a 0 65535)) ∧ w' = w := by
  have C := hide (fun W => In_walk a 0 65535 W)
  generalize inB a 0 65535 = B at *
  go_enter Tryd.func64, Tryd.ntmps64
  go_wp2_with (go_at_call 37; refine (C.out _).mono ?_; rintro e w' ⟨rfl, rfl⟩)
  go_ret
  exact ⟨rfl, rfl⟩
/-- A sum as it is written: 0 is no sum. -/
def udW (x : Int) : Int := if x = 0 then 65535 else x
theorem udW_bd {x : Int} (h : 0 ≤ x ∧ x ≤ 65535) : 0 ≤ udW x ∧ udW x ≤ 65535 := by unfold udW; split <;> omega
theorem writtenSum_walk (x : Int) (w : World) :
    Calls Tryd.prog 69 #[.int .i64 x] w fun e w' => e = .returned (.int .i64 (udW x)) ∧ w' = w := by
  by_cases h : x = 0
  · have e : Hid (udW x = 65535) := hide (by unfold udW; rw [if_pos h])
    go_enter Tryd.func69, Tryd.ntmps69
    go_wp2
    go_ret
    exact ⟨ret_int e.out.symm, rfl⟩
  · have e : Hid (udW x = x) := hide (by unfold udW; rw [if_neg h])
    have hb : (x == 0) = false := by simpa using h
    go_enter Tryd.func69, Tryd.ntmps69
    go_wp2
    go_ret
    exact ⟨ret_int e.out.symm, rfl⟩
/-- The sum of bytes with their false head. -/
def fsum (s d p : Int) (zs : List Int) : Int := csum (fhB s d p (zs.length : Int) ++ zs)
theorem fsum_bd (s d p : Int) (zs : List Int) (h : ∀ z ∈ zs, 0 ≤ z ∧ z ≤ 255) : 0 ≤ fsum s d p zs ∧ fsum s d p zs ≤ 65535 :=
  csum_bd _ (by intro z hz; exact (List.mem_append.1 hz).elim (fhB_bd _ _ _ _ z) (h z))
set_option maxHeartbeats 4000000 in
theorem l10Sum_walk (a : Option Addr) (n cap : Nat) (s d p : Int) (zs : List Int) (w : World) (hn : zs.length = n) (ha : Arr w a zs) (hm : n ≤ 1000000) :
    Calls Tryd.prog 48 #[.slice a n cap, .int .i64 s, .int .i64 d, .int .i64 p] w fun e w' => e = .returned (.int .i64 (fsum s d p zs)) ∧ Below w.heap.size w w' := by
  have C1 := hide (fun W => specFH_walk s d p (n : Int) W)
  have HN := hide hn
  have HA := hide ha
  clear hn ha
  go_enter Tryd.func48, Tryd.ntmps48
  go_wp2_with fail
  refine (C1.out _).mono ?_
  rintro e w1 ⟨u1, rfl, hO1, hb1⟩
  have CJ := hide (l01Join_arr u1 a n cap _ w.heap.size _ zs w1 hb1.size hO1 HN.out (HA.out.below hb1 (Nat.le_refl _)) (by rw [fhB_len]; omega) (by omega))
  have HB1 := hide hb1
  clear C1 hO1 hb1
  go_wp2_with fail
  refine CJ.out.mono ?_
  rintro e w2 ⟨u2, rfl, hO2, hb2⟩
  have HB2 := hide (HB1.out.trans (hb2.mono HB1.out.size))
  clear CJ HB1 hb2
  have hl : (fhB s d p (n : Int) ++ zs).length = 12 + n := by rw [List.length_append, fhB_len, HN.out]
  obtain ⟨g, cp, rfl, hg0, hg1⟩ := hO2.form (by omega)
  have CS := hide (specChecksum_walk (some ⟨g, 0, none⟩) _ cp _ w2 rfl (own_arr hO2).1 (by omega))
  have HE : Hid (65535 - fold (psum (fhB s d p (n : Int) ++ zs) (((fhB s d p (n : Int) ++ zs).length + 1) / 2)) = fsum s d p zs) := hide (by unfold fsum csum; rw [HN.out])
  clear hO2
  rw [HE.out] at CS
  rw [hl]
  rw [hl] at CS
  generalize hF : fsum s d p zs = F at *
  have HF := hide hF
  clear hF
  clear HE hl
  go_wp2_with fail
  refine CS.out.mono ?_
  rintro e w3 ⟨rfl, hw3⟩
  rw [hw3]
  clear hw3 CS
  go_wp2_with fail
  go_ret
  exact ⟨ret_int HF.out.symm, HB2.out⟩
set_option maxHeartbeats 4000000 in
theorem sumFH_walk (a : Option Addr) (n cap : Nat) (s d p : Int) (zs : List Int) (w : World) (hn : zs.length = n) (ha : Arr w a zs) (hm : n ≤ 1048576) :
    Calls Tryd.prog 52 #[.slice a n cap, .int .i64 s, .int .i64 d, .int .i64 p] w fun e w' => e = .returned (.int .i64 (fsum s d p zs)) ∧ Below w.heap.size w w' := by
  have C1 := hide (fun W => falseHead_walk s d p (n : Int) W)
  have HN := hide hn
  have HA := hide ha
  clear hn ha
  go_enter Tryd.func52, Tryd.ntmps52
  go_wp2_with fail
  refine (C1.out _).mono ?_
  rintro e w1 ⟨G, rfl, hG, hr, hb1⟩
  have hbl := (Below.refl w1.heap.size w1).alloc (Nat.le_refl _) (.cells #[.slice (some ⟨G, 0, none⟩) 12 12, .slice a n cap] 22)
  have ha2 := (HA.out.below hb1 (Nat.le_refl _)).below hbl (Nat.le_refl _)
  have hr2 := (hr.below hbl hr.lt).arr (fhB_bd s d p (n : Int))
  have HB2 := hide (hb1.trans (hbl.mono hb1.size))
  have e1 : [fhB s d p (n : Int), zs].flatten = fhB s d p (n : Int) ++ zs := by simp
  have hl : (fhB s d p (n : Int) ++ zs).length = 12 + n := by rw [List.length_append, fhB_len, HN.out]
  have hrow := heap_alloc_new w1 (.cells #[.slice (some ⟨G, 0, none⟩) 12 12, .slice a n cap] 22)
  have HC := hide (checksumOf_walk w1.heap.size 0 2 2 [fhB s d p (n : Int), zs] (w1.alloc (.cells #[.slice (some ⟨G, 0, none⟩) 12 12, .slice a n cap] 22)) rfl (by
    intro i hi
    match i with
    | 0 => exact ⟨_, 12, 12, (cell_of_row _ w1.heap.size 0 _ _ _ hrow).trans rfl, fhB_len _ _ _ _, hr2⟩
    | 1 => exact ⟨a, n, cap, (cell_of_row _ w1.heap.size 1 _ _ _ hrow).trans rfl, HN.out, ha2⟩
    | k + 2 => simp at hi; omega) (by rw [e1]; intro z hz; exact (List.mem_append.1 hz).elim (fhB_bd _ _ _ _ z) (HA.out.1 z)) (by rw [e1, hl]; omega) (by omega))
  rw [e1] at HC
  have HE : Hid (65535 - fold (psum (fhB s d p (n : Int) ++ zs) (((fhB s d p (n : Int) ++ zs).length + 1) / 2)) = fsum s d p zs) := hide (by unfold fsum csum; rw [HN.out])
  rw [HE.out] at HC
  generalize hF : fsum s d p zs = F at *
  have HF := hide hF
  clear hF
  clear HE hl e1 hrow hr2 ha2 hbl hr hb1 C1
  go_wp2_with fail
  refine HC.out.mono ?_
  rintro e w3 ⟨rfl, hw3⟩
  rw [hw3]
  clear hw3 HC
  go_wp2_with fail
  go_ret
  exact ⟨ret_int HF.out.symm, HB2.out⟩

/-- A Datagram's box is as it was laid. -/
abbrev BoxDatagram (w0 w : World) (x0 : Int) (x1 : Int) (v0 : Value) : Prop := Below w0.heap.size w0 w ∧ w0.heap.size < w.heap.size ∧ w.cell? ⟨w0.heap.size, 0, none⟩ = some (.int .i64 x0) ∧ w.cell? ⟨w0.heap.size, 1, none⟩ = some (.int .i64 x1) ∧ w.cell? ⟨w0.heap.size, 2, none⟩ = some (v0)
theorem BoxDatagram.start (w0 : World) (x0 : Int) (x1 : Int) (v0 : Value) (ty : Nat) : BoxDatagram w0 (w0.alloc (.cells #[.int .i64 x0, .int .i64 x1, v0] ty)) x0 x1 v0 := by
  have hh := heap_alloc_new w0 (.cells #[.int .i64 x0, .int .i64 x1, v0] ty)
  exact ⟨(Below.refl _ _).alloc (Nat.le_refl _) _, by rw [World.size_alloc]; omega, cell_of_row _ _ 0 _ _ _ hh, cell_of_row _ _ 1 _ _ _ hh, cell_of_row _ _ 2 _ _ _ hh⟩
theorem BoxDatagram.keep {w0 w w' : World} {C : Nat} {x0 : Int} {x1 : Int} {v0 : Value} (h : BoxDatagram w0 w x0 x1 v0) (hb : Below C w w') (hC : w0.heap.size < C) : BoxDatagram w0 w' x0 x1 v0 := by
  obtain ⟨h1, h2, k0, k1, k2⟩ := h
  exact ⟨h1.trans (hb.mono (by omega)), Nat.lt_of_lt_of_le h2 hb.size, by rw [hb.cell (p := ⟨w0.heap.size, 0, none⟩) hC]; exact k0, by rw [hb.cell (p := ⟨w0.heap.size, 1, none⟩) hC]; exact k1, by rw [hb.cell (p := ⟨w0.heap.size, 2, none⟩) hC]; exact k2⟩
theorem BoxDatagram.next {w0 w w' : World} {x0 : Int} {x1 : Int} {v0 : Value} (h : BoxDatagram w0 w x0 x1 v0) (hb : Below w.heap.size w w') : BoxDatagram w0 w' x0 x1 v0 := h.keep hb h.2.1
theorem BoxDatagram.drew {w0 w : World} {x0 : Int} {x1 : Int} {v0 : Value} (h : BoxDatagram w0 w x0 x1 v0) : BoxDatagram w0 w.drew x0 x1 v0 := h.next ((Below.refl _ _).drew)
theorem twoDatagram {w0 w1 w w' : World} {x0 : Int} {x1 : Int} {v0 : Value} {u0 : Value} (h : BoxDatagram w0 w x0 x1 v0 ∧ BoxDatagram w1 w x0 x1 u0) (hb : Below w.heap.size w w') : BoxDatagram w0 w' x0 x1 v0 ∧ BoxDatagram w1 w' x0 x1 u0 := ⟨h.1.next hb, h.2.next hb⟩
/-- A Datagram lies in block b. -/
abbrev CellDatagram (w : World) (b : Nat) (x0 : Int) (x1 : Int) (v0 : Value) : Prop := b < w.heap.size ∧ w.cell? ⟨b, 0, none⟩ = some (.int .i64 x0) ∧ w.cell? ⟨b, 1, none⟩ = some (.int .i64 x1) ∧ w.cell? ⟨b, 2, none⟩ = some (v0)
theorem CellDatagram.start (w : World) (x0 : Int) (x1 : Int) (v0 : Value) (ty : Nat) : CellDatagram (w.alloc (.cells #[.int .i64 x0, .int .i64 x1, v0] ty)) w.heap.size x0 x1 v0 := (BoxDatagram.start w x0 x1 v0 ty).2
theorem CellDatagram.below {w w' : World} {b C : Nat} {x0 : Int} {x1 : Int} {v0 : Value} (h : CellDatagram w b x0 x1 v0) (hb : Below C w w') (hC : b < C) : CellDatagram w' b x0 x1 v0 := by
  obtain ⟨h2, k0, k1, k2⟩ := h
  exact ⟨Nat.lt_of_lt_of_le h2 hb.size, by rw [hb.cell (p := ⟨b, 0, none⟩) hC]; exact k0, by rw [hb.cell (p := ⟨b, 1, none⟩) hC]; exact k1, by rw [hb.cell (p := ⟨b, 2, none⟩) hC]; exact k2⟩
theorem CellDatagram.next {w w' : World} {b : Nat} {x0 : Int} {x1 : Int} {v0 : Value} (h : CellDatagram w b x0 x1 v0) (hb : Below w.heap.size w w') : CellDatagram w' b x0 x1 v0 := h.below hb h.1
theorem CellDatagram.only {w w' : World} {b : Nat} {R : List Nat} {x0 : Int} {x1 : Int} {v0 : Value} (h : CellDatagram w b x0 x1 v0) (hg : Only R w w') (hne : b ∉ R) : CellDatagram w' b x0 x1 v0 := by
  obtain ⟨h2, k0, k1, k2⟩ := h
  have hk := hg.block b h2 hne
  exact ⟨Nat.lt_of_lt_of_le h2 hg.size, by rw [World.cell?_of_block (a := ⟨b, 0, none⟩) hk]; exact k0, by rw [World.cell?_of_block (a := ⟨b, 1, none⟩) hk]; exact k1, by rw [World.cell?_of_block (a := ⟨b, 2, none⟩) hk]; exact k2⟩
set_option maxHeartbeats 4000000 in
theorem toDatagram_walk (x0 : Int) (x1 : Int) (a0 : Option Addr) (n0 c0 : Nat) (z0 : List Int) (w : World) (h0n : z0.length = n0) (h0a : Arr w a0 z0) (m0 : n0 ≤ 1048576) :
    Calls Tryd.prog 31 #[.agg #[.int .i64 x0, .int .i64 x1, .slice a0 n0 c0]] w fun e w' => ∃ g0 : Nat, e = .returned (.agg #[.int .i64 x0, .int .i64 x1, .slice (some ⟨g0, 0, none⟩) n0 n0]) ∧ OwnB w' w.heap.size (.slice (some ⟨g0, 0, none⟩) n0 n0) z0 ∧ Below w.heap.size w w' := by
  have H0N := hide h0n
  have H0A := hide h0a
  clear h0n h0a
  have hT := Three.start w (.cells #[.int .i64 x0, .int .i64 x1, .slice a0 n0 c0] 52) (.cells #[.int .i64 0, .int .i64 0, .slice none 0 0] 36) (.cells #[.int .i64 x0, .int .i64 x1, .slice none 0 0] 36)
  go_enter Tryd.func31, Tryd.ntmps31
  go_wp2_with fail
  generalize ((w.alloc (.cells #[.int .i64 x0, .int .i64 x1, .slice a0 n0 c0] 52)).alloc (.cells #[.int .i64 0, .int .i64 0, .slice none 0 0] 36)).alloc (.cells #[.int .i64 x0, .int .i64 x1, .slice none 0 0] 36) = W0 at *
  have HT := hide hT
  clear hT
  have hb0 := HT.out.1
  have hsz := HT.out.2.1
  refine (toByteS_own a0 n0 c0 z0 W0 H0N.out (H0A.out.below hb0 (Nat.le_refl _)) m0).mono ?_
  rintro e w1 ⟨rfl, hO0, hb1⟩
  obtain ⟨G0, hG0⟩ : ∃ G, G = W0.heap.size := ⟨_, rfl⟩
  rw [← hG0] at hO0 ⊢
  have hGG0 : w.heap.size + 2 < G0 := by omega
  clear hG0
  have HT1 := hide (HT.out.next hb1)
  have HO0 := hide hO0
  clear hO0 hb1 HT hb0 hsz
  have e0 : w1.cell? ⟨w.heap.size + 1 + 1, 0, none⟩ = some (.int .i64 x0) := cell_of_row _ _ 0 _ _ _ HT1.out.2.2.2.2
  have e1 : w1.cell? ⟨w.heap.size + 1 + 1, 1, none⟩ = some (.int .i64 x1) := cell_of_row _ _ 1 _ _ _ HT1.out.2.2.2.2
  have e2 : w1.cell? ⟨w.heap.size + 1 + 1, 2, none⟩ = some (.slice none 0 0) := cell_of_row _ _ 2 _ _ _ HT1.out.2.2.2.2
  have ef : ∀ o, w1.frozen? ⟨w.heap.size + 1 + 1, o, none⟩ = false := fun o => frozen_of_row _ _ o _ _ HT1.out.2.2.2.2
  have r0 : w1.cell? ⟨w.heap.size + 1, 0, none⟩ = some (.int .i64 0) := cell_of_row _ _ 0 _ _ _ HT1.out.2.2.2.1
  have r1 : w1.cell? ⟨w.heap.size + 1, 1, none⟩ = some (.int .i64 0) := cell_of_row _ _ 1 _ _ _ HT1.out.2.2.2.1
  have r2 : w1.cell? ⟨w.heap.size + 1, 2, none⟩ = some (.slice none 0 0) := cell_of_row _ _ 2 _ _ _ HT1.out.2.2.2.1
  have rf : ∀ o, w1.frozen? ⟨w.heap.size + 1, o, none⟩ = false := fun o => frozen_of_row _ _ o _ _ HT1.out.2.2.2.1
  have hbE := HT1.out.1
  go_wp2_with fail
  refine bodyPost_ret (v := .agg #[.int .i64 x0, .int .i64 x1, .slice (some ⟨G0, 0, none⟩) n0 n0]) (by simp [results, Tryd.results31, go_sem, r0, r1, r2]) rfl ⟨G0, rfl, ?_, ?_⟩
  · exact ((((HO0.out.setBelow (a := ⟨w.heap.size + 1 + 1, 2, none⟩) (by show w.heap.size + 1 + 1 < _; omega) _).setBelow (a := ⟨w.heap.size + 1, 0, none⟩) (by show w.heap.size + 1 < _; omega) _).setBelow (a := ⟨w.heap.size + 1, 1, none⟩) (by show w.heap.size + 1 < _; omega) _).setBelow (a := ⟨w.heap.size + 1, 2, none⟩) (by show w.heap.size + 1 < _; omega) _).mono (by omega)
  · exact ((((hbE.setCell (p := ⟨w.heap.size + 1 + 1, 2, none⟩) (by show _ ≤ w.heap.size + 1 + 1; omega) _).setCell (p := ⟨w.heap.size + 1, 0, none⟩) (by show _ ≤ w.heap.size + 1; omega) _).setCell (p := ⟨w.heap.size + 1, 1, none⟩) (by show _ ≤ w.heap.size + 1; omega) _).setCell (p := ⟨w.heap.size + 1, 2, none⟩) (by show _ ≤ w.heap.size + 1; omega) _)
theorem szDatagram_ok (x0 : Int) (x1 : Int) (a0 : Option Addr) (n0 c0 : Nat) (w : World) (hs : (n0 : Int) ≤ 1048576) :
    Calls Tryd.prog 29 #[.agg #[.int .i64 x0, .int .i64 x1, .slice a0 n0 c0], .int .i64 1048576] w fun e w' => e = .returned (.int .i64 (1048576 - (n0 : Int))) ∧ Below w.heap.size w w' := by
  have hb := (Below.refl w.heap.size w).alloc (Nat.le_refl _) (.cells #[.int .i64 x0, .int .i64 x1, .slice a0 n0 c0] 52)
  have hl := BoxRow.start w #[.int .i64 x0, .int .i64 x1, .slice a0 n0 c0] 52
  have Z0 := hide (fun w => by have h := szByteS_walk a0 n0 c0 (1048576) w (by omega) (by omega) (by omega); rw [if_neg (by omega)] at h; exact h)
  clear hl
  go_enter Tryd.func29, Tryd.ntmps29
  go_wp2_with fail
  refine (Z0.out _).mono ?_
  rintro e w' ⟨rfl, rfl⟩
  go_wp2_with fail
  go_ret
  exact ⟨rfl, hb⟩
theorem szDatagram_big0 (x0 : Int) (x1 : Int) (a0 : Option Addr) (n0 c0 : Nat) (w : World) (h0 : 0 ≤ 1048576) (hs : 1048576 < (n0 : Int)) (m0 : n0 ≤ 9223372036854775807) :
    Calls Tryd.prog 29 #[.agg #[.int .i64 x0, .int .i64 x1, .slice a0 n0 c0], .int .i64 1048576] w fun e w' => e = .returned (.int .i64 (-1)) ∧ Below w.heap.size w w' := by
  have hb := (Below.refl w.heap.size w).alloc (Nat.le_refl _) (.cells #[.int .i64 x0, .int .i64 x1, .slice a0 n0 c0] 52)
  have Z0 := hide (fun w => by have h := szByteS_walk a0 n0 c0 (1048576) w (by omega) (by omega) (by omega); rw [if_pos (by omega)] at h; exact h)
  go_enter Tryd.func29, Tryd.ntmps29
  go_wp2_with fail
  refine (Z0.out _).mono ?_
  rintro e w' ⟨rfl, rfl⟩
  go_wp2_with fail
  go_ret
  exact ⟨rfl, hb⟩
set_option maxHeartbeats 2000000 in
theorem eqDatagram_walk (x0 : Int) (x1 : Int) (a0 : Option Addr) (n0 c0 : Nat) (b0 : Option Addr) (d0 : Nat) (z0 : List Int) (w : World) (h0n : z0.length = n0) (h0a : Arr w a0 z0) (h0b : Arr w b0 z0) (m0 : n0 ≤ 1048576) :
    Calls Tryd.prog 20 #[.agg #[.int .i64 x0, .int .i64 x1, .slice a0 n0 c0], .agg #[.int .i64 x0, .int .i64 x1, .slice b0 n0 d0]] w fun e w' => e = .returned (.bool true) ∧ Below w.heap.size w w' := by
  have HW := hide (TwoB.start w (.cells #[.int .i64 x0, .int .i64 x1, .slice a0 n0 c0] 36) (.cells #[.int .i64 x0, .int .i64 x1, .slice b0 n0 d0] 36))
  have E0 := hide (fun W (hb : Below w.heap.size w W) => eqByteS_walk a0 b0 n0 c0 d0 z0 W h0n (h0a.below hb (Nat.le_refl _)) (h0b.below hb (Nat.le_refl _)) m0)
  clear h0n h0a h0b
  go_enter Tryd.func20, Tryd.ntmps20
  go_wp2_with fail
  generalize (w.alloc (.cells #[.int .i64 x0, .int .i64 x1, .slice a0 n0 c0] 36)).alloc (.cells #[.int .i64 x0, .int .i64 x1, .slice b0 n0 d0] 36) = W at *
  refine (E0.out W HW.out.1.1).mono ?_
  rintro e w1 ⟨rfl, hb, _⟩
  have HW' := hide (HW.out.next hb)
  clear HW hb
  have HW := HW'
  clear HW'
  go_wp2_with fail
  go_ret
  exact ⟨rfl, HW.out.1.1⟩
set_option maxHeartbeats 2000000 in
theorem markDatagram_walk (x0 : Int) (x1 : Int) (v0 : Value) (z0 : List Int) (k : Nat) (w : World) (B0 : Nat) (h0 : OwnB w B0 v0 z0) (m0 : z0.length ≤ 2097152)  (hk : k + z0.length ≤ 4194304) :
    Calls Tryd.prog 21 #[.agg #[.int .i64 x0, .int .i64 x1, v0], .int .i64 (k : Int)] w fun e w' => e = .returned (.int .i64 ((k : Int) + (z0.length : Int))) ∧ OwnB w' B0 v0 (marks (k) z0.length) ∧ Only (v0.ownBlock.toList) w w' := by
  obtain ⟨a0, c0, rfl, _⟩ := own_slice h0
  have hB := BoxRow.start w #[.int .i64 x0, .int .i64 x1, .slice a0 z0.length c0] 36
  have H0 := hide (OwnB.next h0 hB.1)
  have hlt := hB.2.1
  have HB := hide hB.2.2
  have MB0 := hide (own_lt h0)
  have HR := hide (Only.of_below (S := (Value.slice a0 z0.length c0).ownBlock.toList) hB.1)
  clear hB h0
  go_enter Tryd.func21, Tryd.ntmps21
  go_wp2_with fail
  generalize w.alloc (.cells #[.int .i64 x0, .int .i64 x1, .slice a0 z0.length c0] 36) = W at *
  have hM := markB_walk _ B0 z0 (k) W H0.out m0 (by omega)
  have HM := hide hM
  clear hM
  refine HM.out.mono ?_
  rintro e w1 ⟨rfl, hO, hg⟩
  have H0' := hide hO
  clear H0
  have H0 := H0'
  clear H0'
  have HR' := hide (HR.out.trans ((Only.of_grown hg).mono (fun b hb => by simp [hb])))
  clear HR
  have HR := HR'
  clear HR'
  clear hO hg HM
  go_wp2_with fail
  go_ret
  exact ⟨rfl, H0.out, HR.out⟩
set_option maxHeartbeats 2000000 in
theorem heldDatagram_walk (x0 : Int) (x1 : Int) (a0 : Option Addr) (n0 c0 : Nat) (k : Nat) (w : World) (h0 : Arr w a0 (marks (k) n0)) (m0 : n0 ≤ 2097152) (hk : k + n0 ≤ 4194304) :
    Calls Tryd.prog 22 #[.agg #[.int .i64 x0, .int .i64 x1, .slice a0 n0 c0], .int .i64 (k : Int)] w fun e w' => e = .returned (.int .i64 ((k : Int) + (n0 : Int))) ∧ Below w.heap.size w w' := by
  have hB := BoxRow.start w #[.int .i64 x0, .int .i64 x1, .slice a0 n0 c0] 36
  have hM0 := heldB_walk a0 n0 c0 (k) (w.alloc (.cells #[.int .i64 x0, .int .i64 x1, .slice a0 n0 c0] 36)) (h0.below hB.1 (Nat.le_refl _)) m0 (by omega)
  have HM0 := hide hM0
  clear hM0 h0
  have HB := hide hB.1
  clear hB
  go_enter Tryd.func22, Tryd.ntmps22
  go_wp2_with fail
  refine HM0.out.mono ?_
  rintro e w' ⟨rfl, rfl⟩
  go_wp2_with fail
  go_ret
  exact ⟨rfl, HB.out⟩
/-- A copy of a Datagram: its rows are its own. -/
def CopDatagram (W : World) (B : Nat) (g0 : Nat) (n0 : Nat) (z0 : List Int) : Prop := OwnB W B (.slice (some ⟨g0, 0, none⟩) n0 n0) z0
theorem CopDatagram.next {W W' : World} {B : Nat} {g0 : Nat} {n0 : Nat} {z0 : List Int} (h : CopDatagram W B g0 n0 z0) (hb : Below W.heap.size W W') : CopDatagram W' B g0 n0 z0 := by
  exact OwnB.next h hb
theorem CopDatagram.drew {W : World} {B : Nat} {g0 : Nat} {n0 : Nat} {z0 : List Int} (h : CopDatagram W B g0 n0 z0) : CopDatagram W.drew B g0 n0 z0 := h.next ((Below.refl _ _).drew)
theorem CopDatagram.arr0 {W : World} {B : Nat} {g0 : Nat} {n0 : Nat} {z0 : List Int} (h : CopDatagram W B g0 n0 z0) : Arr W (some ⟨g0, 0, none⟩) z0 := (own_arr h).1
theorem CopDatagram.own0 {W : World} {B : Nat} {g0 : Nat} {n0 : Nat} {z0 : List Int} (h : CopDatagram W B g0 n0 z0) : OwnB W B (.slice (some ⟨g0, 0, none⟩) n0 n0) z0 := h
theorem CopDatagram.at {W : World} {B : Nat} {g0 : Nat} {n0 : Nat} {z0 : List Int} (h : CopDatagram W B g0 n0 z0) : ∀ b ∈ [g0], B ≤ b ∧ b < W.heap.size := by
  intro b hb
  simp only [List.mem_cons, List.not_mem_nil, or_false] at hb
  subst hb
  exact h.own0.1.lt _ rfl
/-- What is wanted of a function of a Datagram that answers bytes and a code. -/
def EncDatagramP (f : Nat) (Pre : World → Prop) (x0 : Int) (x1 : Int) (z0 : List Int) (L : List Int) (C : Int) : Prop :=
  ∀ (a0 : Option Addr) (n0 c0 : Nat) (W : World), z0.length = n0 → Arr W a0 z0 → n0 ≤ c0 → n0 ≤ 1048576 → Pre W → Calls Tryd.prog f #[.agg #[.int .i64 x0, .int .i64 x1, .slice a0 n0 c0]] W fun e w' => ∃ v : Value, e = .returned (.tuple #[v, .int .i64 C]) ∧ OwnB w' W.heap.size v L ∧ Below W.heap.size W w'
/-- What is wanted of a function of a Datagram that answers a number. -/
def NumDatagramP (f : Nat) (Pre : World → Prop) (x0 : Int) (x1 : Int) (z0 : List Int) (C : Int) : Prop :=
  ∀ (a0 : Option Addr) (n0 c0 : Nat) (W : World), z0.length = n0 → Arr W a0 z0 → n0 ≤ c0 → n0 ≤ 1048576 → Pre W → Calls Tryd.prog f #[.agg #[.int .i64 x0, .int .i64 x1, .slice a0 n0 c0]] W fun e w' => e = .returned (.int .i64 C) ∧ Below W.heap.size W w'
/-- A Datagram that was answered: its rows are its own, and apart. -/
def AnsDatagram (W : World) (B : Nat) (a0 : Option Addr) (k0 : Nat) (n0 : Nat) (L0 : List Int) : Prop := OwnB W B (.slice a0 n0 k0) L0
theorem AnsDatagram.next {W W' : World} {B : Nat} {a0 : Option Addr} {k0 : Nat} {n0 : Nat} {L0 : List Int} (h : AnsDatagram W B a0 k0 n0 L0) (hb : Below W.heap.size W W') : AnsDatagram W' B a0 k0 n0 L0 := by
  have h0 := h
  exact OwnB.next h0 hb
def rowsDatagram (a0 : Option Addr) (k0 : Nat) (n0 : Nat) : List Nat := (Value.slice a0 n0 k0).ownBlock.toList
theorem AnsDatagram.below {W W' : World} {B : Nat} {a0 : Option Addr} {k0 : Nat} {n0 : Nat} {L0 : List Int} (h : AnsDatagram W B a0 k0 n0 L0) {C : Nat} (hb : Below C W W') (hC : ∀ b ∈ rowsDatagram a0 k0 n0, b < C) : AnsDatagram W' B a0 k0 n0 L0 := by
  have h0 := h
  exact OwnB.below h0 hb (fun k hk => hC k (by unfold rowsDatagram; simp [hk]))
theorem AnsDatagram.only {W W' : World} {B : Nat} {a0 : Option Addr} {k0 : Nat} {n0 : Nat} {L0 : List Int} (h : AnsDatagram W B a0 k0 n0 L0) {R : List Nat} (hb : Only R W W') (hC : ∀ b ∈ rowsDatagram a0 k0 n0, b ∉ R) : AnsDatagram W' B a0 k0 n0 L0 := by
  have h0 := h
  exact OwnB.only h0 hb (fun k hk => hC k (by unfold rowsDatagram; simp [hk]))
theorem AnsDatagram.own0 {W : World} {B : Nat} {a0 : Option Addr} {k0 : Nat} {n0 : Nat} {L0 : List Int} (h : AnsDatagram W B a0 k0 n0 L0) : OwnB W B (.slice a0 n0 k0) L0 := h
theorem AnsDatagram.at {W : World} {B : Nat} {a0 : Option Addr} {k0 : Nat} {n0 : Nat} {L0 : List Int} (h : AnsDatagram W B a0 k0 n0 L0) : ∀ b ∈ rowsDatagram a0 k0 n0, B ≤ b ∧ b < W.heap.size := by
  intro b hb
  unfold rowsDatagram at hb
  simp only [Option.mem_toList] at hb
  exact h.own0.1.lt b hb
/-- What is wanted of a function of bytes that answers a Datagram and a code. -/
def DecDatagramP (f : Nat) (Pre : World → Prop) (zs : List Int) (x0 : Int) (x1 : Int) (L0 : List Int) (C : Int) : Prop :=
  ∀ (a : Option Addr) (n cap : Nat) (W : World), zs.length = n → Arr W a zs → n ≤ cap → n ≤ 1048576 → Pre W → Calls Tryd.prog f #[.slice a n cap] W fun e w' => ∃ v0 : Value, e = .returned (.tuple #[.agg #[.int .i64 x0, .int .i64 x1, v0], .int .i64 C]) ∧ OwnB w' W.heap.size v0 L0 ∧ Below W.heap.size W w'

set_option maxHeartbeats 2000000 in
theorem ansDatagram_nil (x0 : Int) (x1 : Int) (a2 : Option Addr) (n2 c2 : Nat) (w : World) :
    Calls Tryd.prog 55 #[.agg #[.int .i64 x0, .int .i64 x1, .slice a2 n2 c2], .nilIface] w fun e w' => e = .returned (.tuple #[.agg #[.int .i64 x0, .int .i64 x1, .slice a2 n2 c2], .int .i64 0]) ∧ Below w.heap.size w w' := by
  have HB := hide (two_allocs w (.cells #[.int .i64 x0, .int .i64 x1, .slice a2 n2 c2] 36) (.cells #[.int .i64 0, .int .i64 0, .slice none 0 0] 36))
  generalize hW : (w.alloc (.cells #[.int .i64 x0, .int .i64 x1, .slice a2 n2 c2] 36)).alloc (.cells #[.int .i64 0, .int .i64 0, .slice none 0 0] 36) = W at *
  have HW := hide hW
  clear hW
  go_enter Tryd.func55, Tryd.ntmps55
  go_wp2_with fail
  rw [HW.out]
  refine (codeOf_nil _).mono ?_
  rintro e w1 ⟨rfl, hb1⟩
  have HV1 : Hid (HoldV w1 w.heap.size #[.int .i64 x0, .int .i64 x1, .slice a2 n2 c2] 36) := hide (HoldV.next (show HoldV W w.heap.size _ _ from HB.out.2.1) hb1)
  have HZ1 : Hid (HoldV w1 (w.heap.size + 1) #[.int .i64 0, .int .i64 0, .slice none 0 0] 36) := hide (HoldV.next (show HoldV W (w.heap.size + 1) _ _ from HB.out.2.2) hb1)
  have HBE := hide (HB.out.1.trans (hb1.mono HB.out.1.size))
  clear hb1 HB HW
  have k0 := HV1.out.cell 0 _ rfl
  have k1 := HV1.out.cell 1 _ rfl
  have k2 := HV1.out.cell 2 _ rfl
  have d0 := HZ1.out.cell 0 _ rfl
  have d1 := HZ1.out.cell 1 _ rfl
  have d2 := HZ1.out.cell 2 _ rfl
  have fz := HZ1.out.frozen
  go_wp2_with fail
  exact bodyPost_ret (v := .tuple #[.agg #[.int .i64 x0, .int .i64 x1, .slice a2 n2 c2], .int .i64 0]) (by simp [results, Tryd.results55, go_sem, d0, d1, d2]) rfl ⟨rfl, (((HBE.out.setCell (p := ⟨w.heap.size + 1, 0, none⟩) (Nat.le_succ _) _).setCell (p := ⟨w.heap.size + 1, 1, none⟩) (Nat.le_succ _) _).setCell (p := ⟨w.heap.size + 1, 2, none⟩) (Nat.le_succ _) _)⟩
set_option maxHeartbeats 2000000 in
theorem ansDatagram_err (x0 : Int) (x1 : Int) (a2 : Option Addr) (n2 c2 : Nat) (c : Int) (hc0 : c ≠ 0) (w : World) (he : ErrT w) :
    Calls Tryd.prog 55 #[.agg #[.int .i64 x0, .int .i64 x1, .slice a2 n2 c2], wErr c] w fun e w' => e = .returned (.tuple #[.agg #[.int .i64 0, .int .i64 0, .slice none 0 0], .int .i64 c]) ∧ Below w.heap.size w w' := by
  have hcb : (c != 0) = true := by simpa using hc0
  clear hc0
  have HB := hide (two_allocs w (.cells #[.int .i64 x0, .int .i64 x1, .slice a2 n2 c2] 36) (.cells #[.int .i64 0, .int .i64 0, .slice none 0 0] 36))
  generalize hW : (w.alloc (.cells #[.int .i64 x0, .int .i64 x1, .slice a2 n2 c2] 36)).alloc (.cells #[.int .i64 0, .int .i64 0, .slice none 0 0] 36) = W at *
  have HW := hide hW
  clear hW
  go_enter Tryd.func55, Tryd.ntmps55
  go_wp2_with fail
  rw [HW.out]
  refine (codeOf_err c _ (he.below HB.out.1 (Nat.le_refl _))).mono ?_
  rintro e w1 ⟨rfl, hb1⟩
  have HV1 : Hid (HoldV w1 w.heap.size #[.int .i64 x0, .int .i64 x1, .slice a2 n2 c2] 36) := hide (HoldV.next (show HoldV W w.heap.size _ _ from HB.out.2.1) hb1)
  have HZ1 : Hid (HoldV w1 (w.heap.size + 1) #[.int .i64 0, .int .i64 0, .slice none 0 0] 36) := hide (HoldV.next (show HoldV W (w.heap.size + 1) _ _ from HB.out.2.2) hb1)
  have HBE := hide (HB.out.1.trans (hb1.mono HB.out.1.size))
  clear hb1 HB HW
  have hal := (Below.refl w1.heap.size w1).alloc (Nat.le_refl _) (.cells #[.int .i64 0, .int .i64 0, .slice none 0 0] 36)
  have HN2 : Hid (HoldV (w1.alloc (.cells #[.int .i64 0, .int .i64 0, .slice none 0 0] 36)) w1.heap.size #[.int .i64 0, .int .i64 0, .slice none 0 0] 36) := hide (heap_alloc_new _ _)
  have HZ2 := hide (HZ1.out.next hal)
  have HBE2 := hide (HBE.out.trans (hal.mono HBE.out.size))
  generalize hV : w1.alloc (.cells #[.int .i64 0, .int .i64 0, .slice none 0 0] 36) = V at *
  clear hal
  have n0 := HN2.out.cell 0 _ rfl
  have n1 := HN2.out.cell 1 _ rfl
  have n2 := HN2.out.cell 2 _ rfl
  have d0 := HZ2.out.cell 0 _ rfl
  have d1 := HZ2.out.cell 1 _ rfl
  have d2 := HZ2.out.cell 2 _ rfl
  have fz := HZ2.out.frozen
  go_wp2_with fail
  exact bodyPost_ret (v := .tuple #[.agg #[.int .i64 0, .int .i64 0, .slice none 0 0], .int .i64 c]) (by simp [results, Tryd.results55, go_sem, d0, d1, d2]) rfl ⟨rfl, (((HBE2.out.setCell (p := ⟨w.heap.size + 1, 0, none⟩) (Nat.le_succ _) _).setCell (p := ⟨w.heap.size + 1, 1, none⟩) (Nat.le_succ _) _).setCell (p := ⟨w.heap.size + 1, 2, none⟩) (Nat.le_succ _) _)⟩
end Go.Proofs.YtakoagfeiolkjabDoor
