/-
Contracts of functions of this seat.
-/
import Derived.Test.YtjojeplffefnpaaDoorRows
import Derived.WalkKit
import Derived.ProofKit
import Derived.OpenShut
import Derived.Test.YtjojeplffefnpaaDoorRww
import Derived.Test.YtjojeplffefnpaaDoorVra
import Derived.Test.YtjojeplffefnpaaDoorVrb
import Derived.Test.YtjojeplffefnpaaDoorVrc
import Derived.Test.YtjojeplffefnpaaDoorVrd
namespace Go.Proofs.YtjojeplffefnpaaDoor
open Go.ChangeShapes Go.WideShapes Go.ChangeAt Go.RowKit
set_option linter.unusedVariables false
set_option maxRecDepth 100000
abbrev bdT : Nat := 80
/-- A builder that holds these bytes. -/
def Bld (w : World) (B b : Nat) (l : List UInt8) : Prop := Lib.IsBuilder bdT 5 B b (Lib.byteCells l) w
theorem bldAt_next {w w' : World} {B b : Nat} {p : Value} {bs : List Value} (h : Lib.BuilderAt bdT 5 B b p bs w) (hb : Below w.heap.size w w') : Lib.BuilderAt bdT 5 B b p bs w' := by
  obtain ⟨h1, v, h2, h3, h4⟩ := h
  refine ⟨h1, v, (hb.block b (Array.getElem?_eq_some_iff.1 h2).1).trans h2, ⟨h3.1, ?_⟩, h4⟩
  rcases h3.2 with h5 | ⟨g, cap, cur, hv, hB, hg, h6⟩
  · exact .inl h5
  · exact .inr ⟨g, cap, cur, hv, hB, (hb.block g (Array.getElem?_eq_some_iff.1 hg).1).trans hg, h6⟩
theorem Bld.next {w w' : World} {B b : Nat} {l : List UInt8} (h : Bld w B b l) (hb : Below w.heap.size w w') : Bld w' B b l := by
  rcases h with h | h
  · exact .inl (bldAt_next h hb)
  · exact .inr (bldAt_next h hb)
theorem Bld.start (w : World) : Bld (w.alloc (.cells #[.pointer none, .slice none 0 0] bdT)) w.heap.size w.heap.size [] :=
  .inl ⟨Nat.le_refl _, .slice none 0 0, heap_alloc_new _ _, ⟨rfl, .inl ⟨rfl, rfl⟩⟩, by simp [Value.ownBlock]⟩
theorem bld_write (B b : Nat) (l : List UInt8) (s : ByteArray) (w : World) (h : Bld w B b l) (hl : l.length + s.size ≤ 140737488355328) (hB : B ≤ w.heap.size) :
    Calls Tryd.prog 49 #[.pointer (some ⟨b, 0, none⟩), .string s] w fun e w' => e = .returned (.tuple #[.int .i64 s.size, .nilIface]) ∧ Bld w' B b (l ++ s.data.toList) ∧ Below B w w' := by
  refine (Any.Builder_WriteString Tryd.lays166 Tryd.Builder_Extra_156 B b (Lib.byteCells l) s w h (by rw [Lib.byteCells_length]; exact hl) hB).mono ?_
  rintro e w' ⟨rfl, h2, h3⟩
  refine ⟨rfl, .inr ?_, h3⟩
  have e : Lib.byteCells (l ++ s.data.toList) = Lib.byteCells l ++ Lib.strCells s := by unfold Lib.byteCells Lib.strCells; rw [List.map_append]
  rw [e]
  exact h2
theorem bld_string (B b : Nat) (l : List UInt8) (w : World) (h : Bld w B b l) (hB : B ≤ w.heap.size) :
    Calls Tryd.prog 51 #[.pointer (some ⟨b, 0, none⟩)] w fun e w' => e = .returned (.string ⟨l.toArray⟩) ∧ Below B w w' :=
  Any.Builder_String_any Tryd.lays169 Tryd.Builder_Extra_169 B b l w h hB
theorem join_walk (B : Nat) (u : Value) (ss : List ByteArray) (sep : ByteArray) (w : World) (h : OwnW w B u ss) (h0 : ss ≠ []) (hn : ss.length ≤ 1000) (hl : (Lib.join (ss.map (·.data.toList)) sep.data.toList).length ≤ 1000000) :
    Calls Tryd.prog 50 #[u, .string sep] w fun e w' => e = .returned (.string ⟨(Lib.join (ss.map (·.data.toList)) sep.data.toList).toArray⟩) ∧ Below w.heap.size w w' := by
  obtain ⟨g, cap, rfl, _, hg, hc, hcells⟩ := h.form h0
  exact Any.strings_Join Tryd.lays156 Tryd.Builder_Extra_156 g 0 cap ss sep w hcells hg (by omega) hc (by omega)
theorem bytes_len (l : List UInt8) : (⟨l.toArray⟩ : ByteArray).size = l.length := by
  show l.toArray.size = _
  simp

theorem ruLine_len {A D P sa sb sl sh da db dl dh S : Int} (h : ruOK A D P sa sb sl sh da db dl dh S = true) : (ruLine A D P sa sb sl sh da db dl dh S).length ≤ 110 := by
  have e := congrArg List.length (ruStep_line ⟨#[]⟩ A D P sa sb sl sh da db dl dh S)
  have s := ruStep_size ⟨#[]⟩ h
  rw [Array.length_toList] at e
  simp only [List.length_append, List.length_cons, List.length_nil] at e
  have z : (⟨#[]⟩ : ByteArray).size = 0 := rfl
  rw [z] at s
  have s' : (ruStep ⟨#[]⟩ A D P sa sb sl sh da db dl dh S).data.size ≤ 0 + 110 := s
  omega
theorem staB_of {S : Int} (h : inB S 0 4 = true) (hz : ¬ S = 0) : inB S 1 4 = true := by
  have := inB_iff.1 h
  exact inB_iff.2 (by omega)
theorem staB_no {S : Int} (h : inB S 1 4 = false) (hz : ¬ S = 0) : inB S 0 4 = false := by
  cases e : inB S 0 4 with
  | false => rfl
  | true => rw [staB_of e hz] at h; cases h
theorem protB_set {P : Int} {q : Bool} (h : decide (P = 0 ∨ P = 1 ∨ P = 6 ∨ P = 17) = false) : protB P q = false := by
  have := of_decide_eq_false h
  unfold protB
  rw [decide_eq_false (by omega), decide_eq_false (by omega), decide_eq_false (by omega), decide_eq_false (by omega)]
  rfl
theorem protB_in {P : Int} {q : Bool} (h : protB P q = true) : decide (P = 0 ∨ P = 1 ∨ P = 6 ∨ P = 17) = true := by
  cases e : decide (P = 0 ∨ P = 1 ∨ P = 6 ∨ P = 17) with
  | true => rfl
  | false => rw [protB_set e] at h; cases h
theorem protB_has {P : Int} {q : Bool} (h : decide (P = 6 ∨ P = 17) = true) : protB P q = true := by
  rcases of_decide_eq_true h with rfl | rfl <;> rfl
theorem protB_not {P : Int} {q : Bool} (h : decide (P = 0 ∨ P = 1 ∨ P = 6 ∨ P = 17) = true) (h2 : decide (P = 6 ∨ P = 17) = false) : protB P q = q := by
  have h3 := of_decide_eq_true h
  have h4 := of_decide_eq_false h2
  have : P = 0 ∨ P = 1 := by omega
  rcases this with rfl | rfl <;> rfl
theorem validRule_walk (A D P sa sb sl sh da db dl dh S : Int) (w : World) : Calls Tryd.prog 23 #[.agg #[.int .i64 A, .int .i64 D, .int .i64 P, .int .i64 sa, .int .i64 sb, .int .i64 sl, .int .i64 sh, .int .i64 da, .int .i64 db, .int .i64 dl, .int .i64 dh, .int .i64 S]] w fun e w' => e = .returned (.bool (ruOK A D P sa sb sl sh da db dl dh S)) ∧ Below w.heap.size w w' := by
  cases hA : inB A 1 3 with
  | false => rw [show ruOK A D P sa sb sl sh da db dl dh S = false by unfold ruOK; rw [hA]; simp]; exact validRule_Af A D P sa sb sl sh da db dl dh S w hA
  | true =>
  cases hD : inB D 1 3 with
  | false => rw [show ruOK A D P sa sb sl sh da db dl dh S = false by unfold ruOK; rw [hD]; simp]; exact validRule_Df A D P sa sb sl sh da db dl dh S w hA hD
  | true =>
  cases hP : decide (P = 0 ∨ P = 1 ∨ P = 6 ∨ P = 17) with
  | false => rw [show ruOK A D P sa sb sl sh da db dl dh S = false by unfold ruOK; rw [protB_set hP]; simp]; exact validRule_Pf A D P sa sb sl sh da db dl dh S w hA hD hP
  | true =>
  by_cases hz : S = 0
  · subst hz
    cases hp : prefB sa sb with
    | false => rw [show ruOK A D P sa sb sl sh da db dl dh 0 = false by unfold ruOK; rw [hp]; simp]; exact validRule_pz A D P sa sb sl sh da db dl dh 0 w hA hD hP hp
    | true =>
    cases hs : portB sl sh with
    | false => rw [show ruOK A D P sa sb sl sh da db dl dh 0 = false by unfold ruOK; rw [hs]; simp]; exact validRule_oz A D P sa sb sl sh da db dl dh 0 w hA hD hP hp hs
    | true =>
    cases hq : prefB da db with
    | false => rw [show ruOK A D P sa sb sl sh da db dl dh 0 = false by unfold ruOK; rw [hq]; simp]; exact validRule_qz A D P sa sb sl sh da db dl dh 0 w hA hD hP hp hs hq
    | true =>
    cases hd : portB dl dh with
    | false => rw [show ruOK A D P sa sb sl sh da db dl dh 0 = false by unfold ruOK; rw [hd]; simp]; exact validRule_tz A D P sa sb sl sh da db dl dh 0 w hA hD hP hp hs hq hd
    | true =>
    cases hh : decide (P = 6 ∨ P = 17) with
    | true =>
      rw [show ruOK A D P sa sb sl sh da db dl dh 0 = true by unfold ruOK; rw [hA, hD, (show inB 0 0 4 = true from rfl), hp, hs, hq, hd, protB_has hh]; rfl]
      exact validRule_hz A D P sa sb sl sh da db dl dh 0 w hA hD hP hp hs hq hd hh
    | false =>
      rw [show ruOK A D P sa sb sl sh da db dl dh 0 = (allP sl sh && allP dl dh) by unfold ruOK; rw [hA, hD, (show inB 0 0 4 = true from rfl), hp, hs, hq, hd, protB_not hP hh]; rfl]
      exact validRule_xz A D P sa sb sl sh da db dl dh 0 w hA hD hP hp hs hq hd hh
  · have hSz : (S == 0) = false := beq_eq_false_iff_ne.2 hz
    cases hS : inB S 1 4 with
    | false => rw [show ruOK A D P sa sb sl sh da db dl dh S = false by unfold ruOK; rw [staB_no hS hz]; simp]; exact validRule_Sf A D P sa sb sl sh da db dl dh S w hA hD hP hS hSz
    | true =>
    have hS4 : inB S 0 4 = true := inB_iff.2 (by have := inB_iff.1 hS; omega)
    cases hp : prefB sa sb with
    | false => rw [show ruOK A D P sa sb sl sh da db dl dh S = false by unfold ruOK; rw [hp]; simp]; exact validRule_ps A D P sa sb sl sh da db dl dh S w hA hD hP hS hp hSz
    | true =>
    cases hs : portB sl sh with
    | false => rw [show ruOK A D P sa sb sl sh da db dl dh S = false by unfold ruOK; rw [hs]; simp]; exact validRule_os A D P sa sb sl sh da db dl dh S w hA hD hP hS hp hs hSz
    | true =>
    cases hq : prefB da db with
    | false => rw [show ruOK A D P sa sb sl sh da db dl dh S = false by unfold ruOK; rw [hq]; simp]; exact validRule_qs A D P sa sb sl sh da db dl dh S w hA hD hP hS hp hs hq hSz
    | true =>
    cases hd : portB dl dh with
    | false => rw [show ruOK A D P sa sb sl sh da db dl dh S = false by unfold ruOK; rw [hd]; simp]; exact validRule_ts A D P sa sb sl sh da db dl dh S w hA hD hP hS hp hs hq hd hSz
    | true =>
    cases hh : decide (P = 6 ∨ P = 17) with
    | true =>
      rw [show ruOK A D P sa sb sl sh da db dl dh S = true by unfold ruOK; rw [hA, hD, hS4, hp, hs, hq, hd, protB_has hh]; rfl]
      exact validRule_hs A D P sa sb sl sh da db dl dh S w hA hD hP hS hp hs hq hd hh hSz
    | false =>
      rw [show ruOK A D P sa sb sl sh da db dl dh S = (allP sl sh && allP dl dh) by unfold ruOK; rw [hA, hD, hS4, hp, hs, hq, hd, protB_not hP hh]; rfl]
      exact validRule_xs A D P sa sb sl sh da db dl dh S w hA hD hP hS hp hs hq hd hh hSz
theorem ruleWords_walk (A D P sa sb sl sh da db dl dh S : Int) (w : World) (h : ruOK A D P sa sb sl sh da db dl dh S = true) (ht : Lib.TabBelow Tryd.prog w.heap.size w "internal/strconv.uint64pow10" .u64 Lib.pow10Tab) :
    Calls Tryd.prog 24 #[.agg #[.int .i64 A, .int .i64 D, .int .i64 P, .int .i64 sa, .int .i64 sb, .int .i64 sl, .int .i64 sh, .int .i64 da, .int .i64 db, .int .i64 dl, .int .i64 dh, .int .i64 S]] w fun e w' => ∃ u, e = .returned u ∧ OwnW w' (w.heap.size + 1) u (ruWords A D P sa sb sl sh da db dl dh S) ∧ Below w.heap.size w w' := by
  obtain ⟨hA, hD, hS, hp, hq, hs, hd, hP⟩ := ruOK_parts h
  have hA' : inB A 1 3 = true := inB_iff.2 hA
  have hD' : inB D 1 3 = true := inB_iff.2 hD
  have hP' := protB_in hP
  have l1 := sideWs_len sa sb sl sh
  have l2 := sideWs_len da db dl dh
  have TB : ∀ (S : Int) W, BoxR w W A D P sa sb sl sh da db dl dh S → Lib.TabBelow Tryd.prog W.heap.size W "internal/strconv.uint64pow10" .u64 Lib.pow10Tab := fun S W hW => tab_later ht hW.1 (by have := hW.2.1; omega)
  have CX := fun (S : Int) W (hW : BoxR w W A D P sa sb sl sh da db dl dh S) => sideWords_walk sa sb sl sh W hp hs (TB S W hW)
  have CY := fun (S : Int) W (hW : BoxR w W A D P sa sb sl sh da db dl dh S) => sideWords_walk da db dl dh W hq hd (TB S W hW)
  unfold ruWords ruBase
  by_cases hz : S = 0
  · rw [if_pos hz]
    subst hz
    exact ruleW_z A D P sa sb sl sh da db dl dh 0 w _ _ _ _ (sideWs_ne _ _ _ _) (sideWs_ne _ _ _ _) rfl rfl l1 l2 hA' hD' hP' (CX 0) (CY 0)
  · rw [if_neg hz]
    exact ruleW_s A D P sa sb sl sh da db dl dh S w _ _ _ _ (sideWs_ne _ _ _ _) (sideWs_ne _ _ _ _) rfl rfl l1 l2 hA' hD' hP' (inB_iff.2 (by omega)) (by simpa using hz) (CX S) (CY S)
set_option maxHeartbeats 8000000 in
theorem showLinesR_walk (a : Option Addr) (n cap : Nat) (zs : List Int) (w : World) (hn : zs.length = n * 12) (ha : ArrI w a zs) (hm : n ≤ 64) (ht : Lib.TabBelow Tryd.prog w.heap.size w "internal/strconv.uint64pow10" .u64 Lib.pow10Tab) :
    Calls Tryd.prog 22 #[.slice a n cap, .int .i64 64, .func (.func 23) #[] #[], .func (.func 24) #[] #[]] w fun e w' => e = .returned (.tuple #[.string (ruS zs n), .int .i64 (ruC zs n)]) ∧ Below w.heap.size w w' := by
  have HA := hide ha
  have HN := hide hn
  have HT := hide ht
  have hn' : (n : Int) ≤ 64 := by omega
  have HB0 : Hid (Below w.heap.size w (w.alloc (.cells #[.pointer none, .slice none 0 0] bdT))) := hide ((Below.refl _ _).alloc (Nat.le_refl _) _)
  have HBL0 := hide (Bld.start w)
  clear ha hn ht
  go_enter Tryd.func22, Tryd.ntmps22
  go_wp2_with fail
  generalize hW : w.alloc (.cells #[.pointer none, .slice none 0 0] 80) = W0 at *
  clear hW
  go_loopw [19] (fun t w2 => ∃ k : Nat, k ≤ n ∧ t = .int .i64 k ∧ Hid (Below w.heap.size w w2) ∧ Hid (Bld w2 w.heap.size w.heap.size (ruText zs k).data.toList) ∧ Hid (ruAll zs k = true) ∧ Hid ((ruText zs k).data.toList.length ≤ 111 * k)) (fun t _ => n - (intOf t).toNat)
  case atStart => exact ⟨0, Nat.zero_le _, rfl, HB0, HBL0, hide rfl, hide (Nat.zero_le _)⟩
  case round =>
    obtain ⟨k, hk, rfl, HB, HBL, HAL, HLEN⟩ := hrel
    by_cases hlt : k < n
    · obtain ⟨bb, off, ea, hbs, _⟩ := HA.out (k * 12) (by rw [HN.out]; omega)
      subst ea
      have cc : ∀ i, i < 12 → wr.cell? ⟨bb, off + (k * 12 + i), none⟩ = some (.int .i64 (zs.getD (k * 12 + i) 0)) := fun i hi => by
        obtain ⟨b', o', e, hb', c⟩ := HA.out (k * 12 + i) (by rw [HN.out]; omega)
        cases e
        rw [HB.out.cell (p := ⟨bb, off + (k * 12 + i), none⟩) hb']
        exact c
      have c0 : wr.cell? ⟨bb, off + k * 12, none⟩ = some (.int .i64 (ruAt zs k 0)) := cc 0 (by decide)
      have c1 : wr.cell? ⟨bb, off + k * 12 + 1, none⟩ = some (.int .i64 (ruAt zs k 1)) := by rw [Nat.add_assoc]; exact cc 1 (by decide)
      have c2 : wr.cell? ⟨bb, off + k * 12 + 2, none⟩ = some (.int .i64 (ruAt zs k 2)) := by rw [Nat.add_assoc]; exact cc 2 (by decide)
      have c3 : wr.cell? ⟨bb, off + k * 12 + 3, none⟩ = some (.int .i64 (ruAt zs k 3)) := by rw [Nat.add_assoc]; exact cc 3 (by decide)
      have c4 : wr.cell? ⟨bb, off + k * 12 + 4, none⟩ = some (.int .i64 (ruAt zs k 4)) := by rw [Nat.add_assoc]; exact cc 4 (by decide)
      have c5 : wr.cell? ⟨bb, off + k * 12 + 5, none⟩ = some (.int .i64 (ruAt zs k 5)) := by rw [Nat.add_assoc]; exact cc 5 (by decide)
      have c6 : wr.cell? ⟨bb, off + k * 12 + 6, none⟩ = some (.int .i64 (ruAt zs k 6)) := by rw [Nat.add_assoc]; exact cc 6 (by decide)
      have c7 : wr.cell? ⟨bb, off + k * 12 + 7, none⟩ = some (.int .i64 (ruAt zs k 7)) := by rw [Nat.add_assoc]; exact cc 7 (by decide)
      have c8 : wr.cell? ⟨bb, off + k * 12 + 8, none⟩ = some (.int .i64 (ruAt zs k 8)) := by rw [Nat.add_assoc]; exact cc 8 (by decide)
      have c9 : wr.cell? ⟨bb, off + k * 12 + 9, none⟩ = some (.int .i64 (ruAt zs k 9)) := by rw [Nat.add_assoc]; exact cc 9 (by decide)
      have c10 : wr.cell? ⟨bb, off + k * 12 + 10, none⟩ = some (.int .i64 (ruAt zs k 10)) := by rw [Nat.add_assoc]; exact cc 10 (by decide)
      have c11 : wr.cell? ⟨bb, off + k * 12 + 11, none⟩ = some (.int .i64 (ruAt zs k 11)) := by rw [Nat.add_assoc]; exact cc 11 (by decide)
      clear cc
      have CV := hide (fun W => validRule_walk (ruAt zs k 0) (ruAt zs k 1) (ruAt zs k 2) (ruAt zs k 3) (ruAt zs k 4) (ruAt zs k 5) (ruAt zs k 6) (ruAt zs k 7) (ruAt zs k 8) (ruAt zs k 9) (ruAt zs k 10) (ruAt zs k 11) W)
      have HBA : Hid (Below wr.heap.size wr (wr.alloc (.cells #[.int .i64 (ruAt zs k 0), .int .i64 (ruAt zs k 1), .int .i64 (ruAt zs k 2), .int .i64 (ruAt zs k 3), .int .i64 (ruAt zs k 4), .int .i64 (ruAt zs k 5), .int .i64 (ruAt zs k 6), .int .i64 (ruAt zs k 7), .int .i64 (ruAt zs k 8), .int .i64 (ruAt zs k 9), .int .i64 (ruAt zs k 10), .int .i64 (ruAt zs k 11)] 44))) := hide ((Below.refl _ _).alloc (Nat.le_refl _) _)
      have HVA : Hid (HoldV (wr.alloc (.cells #[.int .i64 (ruAt zs k 0), .int .i64 (ruAt zs k 1), .int .i64 (ruAt zs k 2), .int .i64 (ruAt zs k 3), .int .i64 (ruAt zs k 4), .int .i64 (ruAt zs k 5), .int .i64 (ruAt zs k 6), .int .i64 (ruAt zs k 7), .int .i64 (ruAt zs k 8), .int .i64 (ruAt zs k 9), .int .i64 (ruAt zs k 10), .int .i64 (ruAt zs k 11)] 44)) wr.heap.size #[.int .i64 (ruAt zs k 0), .int .i64 (ruAt zs k 1), .int .i64 (ruAt zs k 2), .int .i64 (ruAt zs k 3), .int .i64 (ruAt zs k 4), .int .i64 (ruAt zs k 5), .int .i64 (ruAt zs k 6), .int .i64 (ruAt zs k 7), .int .i64 (ruAt zs k 8), .int .i64 (ruAt zs k 9), .int .i64 (ruAt zs k 10), .int .i64 (ruAt zs k 11)] 44) := hide (heap_alloc_new _ _)
      cases ho : ruOK (ruAt zs k 0) (ruAt zs k 1) (ruAt zs k 2) (ruAt zs k 3) (ruAt zs k 4) (ruAt zs k 5) (ruAt zs k 6) (ruAt zs k 7) (ruAt zs k 8) (ruAt zs k 9) (ruAt zs k 10) (ruAt zs k 11) with
      | false =>
        rw [ho] at CV
        have E : Hid (ruC zs n = 1 ∧ ruS zs n = ⟨#[]⟩) := hide (by
          have h1 : ruC zs n = 1 := by unfold ruC; rw [if_neg (by omega), ruAll_mono hlt ho]; rfl
          exact ⟨h1, by unfold ruS; rw [h1]; rfl⟩)
        clear ho
        go_wp2_with ((go_at_call 23; refine (CV.out _).mono ?_; rintro e w1 ⟨rfl, hb1⟩))
        go_ret2
        rw [E.out.1, E.out.2]
        exact ⟨rfl, HB.out.trans ((HBA.out.trans (hb1.mono HBA.out.size)).mono HB.out.size)⟩
      | true =>
        rw [ho] at CV
        have HS : Hid (ruAll zs (k + 1) = true) := hide (by show (ruAll zs k && ruOK (ruAt zs k 0) (ruAt zs k 1) (ruAt zs k 2) (ruAt zs k 3) (ruAt zs k 4) (ruAt zs k 5) (ruAt zs k 6) (ruAt zs k 7) (ruAt zs k 8) (ruAt zs k 9) (ruAt zs k 10) (ruAt zs k 11)) = true; rw [HAL.out, ho]; rfl)
        have HT2 : Hid ((ruText zs (k + 1)).data.toList = ((ruText zs k).data.toList ++ ruLine (ruAt zs k 0) (ruAt zs k 1) (ruAt zs k 2) (ruAt zs k 3) (ruAt zs k 4) (ruAt zs k 5) (ruAt zs k 6) (ruAt zs k 7) (ruAt zs k 8) (ruAt zs k 9) (ruAt zs k 10) (ruAt zs k 11)) ++ [10]) := hide (ruStep_line _ _ _ _ _ _ _ _ _ _ _ _ _)
        have HLL : Hid ((ruLine (ruAt zs k 0) (ruAt zs k 1) (ruAt zs k 2) (ruAt zs k 3) (ruAt zs k 4) (ruAt zs k 5) (ruAt zs k 6) (ruAt zs k 7) (ruAt zs k 8) (ruAt zs k 9) (ruAt zs k 10) (ruAt zs k 11)).length ≤ 110) := hide (ruLine_len ho)
        have CW := hide (fun W hW => ruleWords_walk (ruAt zs k 0) (ruAt zs k 1) (ruAt zs k 2) (ruAt zs k 3) (ruAt zs k 4) (ruAt zs k 5) (ruAt zs k 6) (ruAt zs k 7) (ruAt zs k 8) (ruAt zs k 9) (ruAt zs k 10) (ruAt zs k 11) W ho hW)
        clear ho
        go_wp2_with ((go_at_call 23; refine (CV.out _).mono ?_; rintro e w1 ⟨rfl, hb1⟩; have HV1 := HVA.out.next hb1; have g0 := HV1.cell 0 _ rfl; have g1 := HV1.cell 1 _ rfl; have g2 := HV1.cell 2 _ rfl; have g3 := HV1.cell 3 _ rfl; have g4 := HV1.cell 4 _ rfl; have g5 := HV1.cell 5 _ rfl; have g6 := HV1.cell 6 _ rfl; have g7 := HV1.cell 7 _ rfl; have g8 := HV1.cell 8 _ rfl; have g9 := HV1.cell 9 _ rfl; have g10 := HV1.cell 10 _ rfl; have g11 := HV1.cell 11 _ rfl))
        have HB1 := hide (HBA.out.trans (hb1.mono HBA.out.size))
        have HBL1 := hide (HBL.out.next HB1.out)
        have HBW := hide (HB.out.trans (HB1.out.mono HB.out.size))
        refine (CW.out _ (tab_later HT.out HBW.out HBW.out.size)).mono ?_
        rintro e w2 ⟨u, rfl, hu, hb2⟩
        have HBL2 := hide (HBL1.out.next hb2)
        have HBW2 := hide (HBW.out.trans (hb2.mono HBW.out.size))
        have CJ := hide (join_walk _ u _ ⟨#[32]⟩ w2 hu (ruWords_ne _ _ _ _ _ _ _ _ _ _ _ _) (by have := ruWords_len (ruAt zs k 0) (ruAt zs k 1) (ruAt zs k 2) (ruAt zs k 3) (ruAt zs k 4) (ruAt zs k 5) (ruAt zs k 6) (ruAt zs k 7) (ruAt zs k 8) (ruAt zs k 9) (ruAt zs k 10) (ruAt zs k 11); omega) (by have := HLL.out; unfold ruLine at this; exact Nat.le_trans this (by decide)))
        clear hu hb2 hb1 HV1 g0 g1 g2 g3 g4 g5 g6 g7 g8 g9 g10 g11 HBL1 HBW HB1 CW CV
        go_wp2_with fail
        refine CJ.out.mono ?_
        rintro e w3 ⟨rfl, hb3⟩
        have HBL3 := hide (HBL2.out.next hb3)
        have HBW3 := hide (HBW2.out.trans (hb3.mono HBW2.out.size))
        clear hb3 CJ
        have HLN := HLEN.out
        have HLR := HLL.out
        have CB1 := hide (bld_write w.heap.size w.heap.size (ruText zs k).data.toList ⟨(ruLine (ruAt zs k 0) (ruAt zs k 1) (ruAt zs k 2) (ruAt zs k 3) (ruAt zs k 4) (ruAt zs k 5) (ruAt zs k 6) (ruAt zs k 7) (ruAt zs k 8) (ruAt zs k 9) (ruAt zs k 10) (ruAt zs k 11)).toArray⟩ w3 HBL3.out (by rw [bytes_len]; omega) HBW3.out.size)
        clear HLN HLR
        go_wp2_with fail
        refine CB1.out.mono ?_
        rintro e w4 ⟨rfl, hbl4, hb4⟩
        have HBL4 : Hid (Bld w4 w.heap.size w.heap.size ((ruText zs k).data.toList ++ ruLine (ruAt zs k 0) (ruAt zs k 1) (ruAt zs k 2) (ruAt zs k 3) (ruAt zs k 4) (ruAt zs k 5) (ruAt zs k 6) (ruAt zs k 7) (ruAt zs k 8) (ruAt zs k 9) (ruAt zs k 10) (ruAt zs k 11))) := hide hbl4
        have HBW4 := hide (HBW3.out.trans hb4)
        have CB2 := hide (bld_write w.heap.size w.heap.size _ ⟨#[10]⟩ w4 HBL4.out (by have := HLEN.out; have := HLL.out; rw [List.length_append]; have e : (⟨#[10]⟩ : ByteArray).size = 1 := rfl; omega) HBW4.out.size)
        clear hb4 hbl4 CB1
        go_wp2_with fail
        refine CB2.out.mono ?_
        rintro e w5 ⟨rfl, hbl5, hb5⟩
        have HBL5 : Hid (Bld w5 w.heap.size w.heap.size (ruText zs (k + 1)).data.toList) := hide (by rw [HT2.out]; exact hbl5)
        have HBW5 := hide (HBW4.out.trans hb5)
        have HLE5 : Hid ((ruText zs (k + 1)).data.toList.length ≤ 111 * (k + 1)) := hide (by have := HLEN.out; have := HLL.out; rw [HT2.out, List.length_append, List.length_append]; show _ + 1 ≤ _; omega)
        clear hb5 hbl5 CB2
        go_wp2_with fail
        exact ⟨⟨k + 1, by omega, by go_num, HBW5, HBL5, HS, HLE5⟩, by simp [intOf]; omega⟩
    · have hkn : k = n := by omega
      subst hkn
      have E : Hid (ruC zs k = 0 ∧ ruS zs k = ⟨(ruText zs k).data.toList.toArray⟩) := hide (by
          have h1 : ruC zs k = 0 := by unfold ruC; rw [if_neg (by omega), HAL.out]; rfl
          exact ⟨h1, by unfold ruS; rw [h1]; simp⟩)
      go_wp2_with fail
      refine (bld_string _ _ _ _ HBL.out HB.out.size).mono ?_
      rintro e w1 ⟨rfl, hb1⟩
      go_wp2_with fail
      go_ret2
      rw [E.out.1, E.out.2]
      exact ⟨rfl, HB.out.trans hb1⟩
end Go.Proofs.YtjojeplffefnpaaDoor
