/-
Contracts of functions of this seat.
-/
import Derived.Test.YtmlpninkilcjaaaDoorRows
import Derived.WalkKit
import Derived.ProofKit
import Derived.OpenShut
import Derived.Test.YtmlpninkilcjaaaDoorSln
import Derived.Test.YtmlpninkilcjaaaDoorVlr
namespace Go.Proofs.YtmlpninkilcjaaaDoor
open Go.ChangeShapes Go.WideShapes Go.ChangeAt Go.RowKit
set_option linter.unusedVariables false
set_option maxRecDepth 100000
abbrev bdT : Nat := 54
/-- A builder that holds these bytes. -/
def Bld (w : World) (B b : Nat) (l : List UInt8) : Prop := Lib.IsBuilder bdT 5 B b (Lib.byteCells l) w
theorem bldAt_next {w w' : World} {B b : Nat} {p : Value} {bs : List Value} (h : Lib.BuilderAt bdT 5 B b p bs w) (hb : Below w.heap.size w w') : Lib.BuilderAt bdT 5 B b p bs w' := by
  obtain ⟨h1, v, h2, h3, h4⟩ := h
  refine ⟨h1, v, (hb.block b (Array.getElem?_eq_some_iff.1 h2).1).trans h2, ⟨h3.1, ?_⟩, h4⟩
  rcases h3.2 with h5 | ⟨g, cap, cur, hv, hB, hg, h6⟩
  · exact .inl h5
  · exact .inr ⟨g, cap, cur, hv, hB, (hb.block g (Array.getElem?_eq_some_iff.1 hg).1).trans hg, h6⟩
theorem Bld.next {w w' : World} {B b : Nat} {l : List UInt8} (h : Bld w B b l) (hb : Below w.heap.size w w') : Bld w' B b l := by
  rcases h with h | h
  · exact .inl (bldAt_next h hb)
  · exact .inr (bldAt_next h hb)
theorem Bld.start (w : World) : Bld (w.alloc (.cells #[.pointer none, .slice none 0 0] bdT)) w.heap.size w.heap.size [] :=
  .inl ⟨Nat.le_refl _, .slice none 0 0, heap_alloc_new _ _, ⟨rfl, .inl ⟨rfl, rfl⟩⟩, by simp [Value.ownBlock]⟩
theorem bld_write (B b : Nat) (l : List UInt8) (s : ByteArray) (w : World) (h : Bld w B b l) (hl : l.length + s.size ≤ 140737488355328) (hB : B ≤ w.heap.size) :
    Calls Tryd.prog 23 #[.pointer (some ⟨b, 0, none⟩), .string s] w fun e w' => e = .returned (.tuple #[.int .i64 s.size, .nilIface]) ∧ Bld w' B b (l ++ s.data.toList) ∧ Below B w w' := by
  refine (Any.Builder_WriteString Tryd.lays166 Tryd.Builder_Extra_156 B b (Lib.byteCells l) s w h (by rw [Lib.byteCells_length]; exact hl) hB).mono ?_
  rintro e w' ⟨rfl, h2, h3⟩
  refine ⟨rfl, .inr ?_, h3⟩
  have e : Lib.byteCells (l ++ s.data.toList) = Lib.byteCells l ++ Lib.strCells s := by unfold Lib.byteCells Lib.strCells; rw [List.map_append]
  rw [e]
  exact h2
theorem bld_string (B b : Nat) (l : List UInt8) (w : World) (h : Bld w B b l) (hB : B ≤ w.heap.size) :
    Calls Tryd.prog 25 #[.pointer (some ⟨b, 0, none⟩)] w fun e w' => e = .returned (.string ⟨l.toArray⟩) ∧ Below B w w' :=
  Any.Builder_String_any Tryd.lays169 Tryd.Builder_Extra_169 B b l w h hB
theorem join_walk (B : Nat) (u : Value) (ss : List ByteArray) (sep : ByteArray) (w : World) (h : OwnS w B u ss) (h0 : ss ≠ []) (hn : ss.length ≤ 1000) (hl : (Lib.join (ss.map (·.data.toList)) sep.data.toList).length ≤ 1000000) :
    Calls Tryd.prog 24 #[u, .string sep] w fun e w' => e = .returned (.string ⟨(Lib.join (ss.map (·.data.toList)) sep.data.toList).toArray⟩) ∧ Below w.heap.size w w' := by
  obtain ⟨g, cap, rfl, _, hg, hc, hcells⟩ := h.form h0
  exact Any.strings_Join Tryd.lays156 Tryd.Builder_Extra_156 g 0 cap ss sep w hcells hg (by omega) hc (by omega)
theorem bytes_len (l : List UInt8) : (⟨l.toArray⟩ : ByteArray).size = l.length := by
  show l.toArray.size = _
  simp
theorem rtWords_len (a b v l m : Int) : (rtWords a b v l m).length ≤ 7 := by
  unfold rtWords
  split <;> split <;> simp
set_option maxHeartbeats 8000000 in
theorem showLines_walk (a : Option Addr) (n cap : Nat) (zs : List Int) (w : World) (hn : zs.length = n * 5) (ha : ArrI w a zs) (hm : n ≤ 64) (ht : Lib.TabBelow Tryd.prog w.heap.size w "internal/strconv.uint64pow10" .u64 Lib.pow10Tab) :
    Calls Tryd.prog 14 #[.slice a n cap, .int .i64 64, .func (.func 15) #[] #[], .func (.func 16) #[] #[]] w fun e w' => e = .returned (.tuple #[.string (srS zs n), .int .i64 (srC zs n)]) ∧ Below w.heap.size w w' := by
  have HA := hide ha
  have HN := hide hn
  have HT := hide ht
  have hn' : (n : Int) ≤ 64 := by omega
  have HB0 : Hid (Below w.heap.size w (w.alloc (.cells #[.pointer none, .slice none 0 0] bdT))) := hide ((Below.refl _ _).alloc (Nat.le_refl _) _)
  have HBL0 := hide (Bld.start w)
  clear ha hn ht
  go_enter Tryd.func14, Tryd.ntmps14
  go_wp2_with fail
  generalize hW : w.alloc (.cells #[.pointer none, .slice none 0 0] 54) = W0 at *
  clear hW
  go_loopw [19] (fun t w2 => ∃ k : Nat, k ≤ n ∧ t = .int .i64 k ∧ Hid (Below w.heap.size w w2) ∧ Hid (Bld w2 w.heap.size w.heap.size (srText zs k).data.toList) ∧ Hid (srAll zs k = true) ∧ Hid ((srText zs k).data.toList.length ≤ 66 * k)) (fun t _ => n - (intOf t).toNat)
  case atStart => exact ⟨0, Nat.zero_le _, rfl, HB0, HBL0, hide rfl, hide (Nat.zero_le _)⟩
  case round =>
    obtain ⟨k, hk, rfl, HB, HBL, HAL, HLEN⟩ := hrel
    by_cases hlt : k < n
    · obtain ⟨bb, off, ea, hbs, _⟩ := HA.out (k * 5) (by rw [HN.out]; omega)
      subst ea
      have cc : ∀ i, i < 5 → wr.cell? ⟨bb, off + (k * 5 + i), none⟩ = some (.int .i64 (zs.getD (k * 5 + i) 0)) := fun i hi => by
        obtain ⟨b', o', e, hb', c⟩ := HA.out (k * 5 + i) (by rw [HN.out]; omega)
        cases e
        rw [HB.out.cell (p := ⟨bb, off + (k * 5 + i), none⟩) hb']
        exact c
      have c0 : wr.cell? ⟨bb, off + k * 5, none⟩ = some (.int .i64 (rA zs k)) := cc 0 (by decide)
      have c1 : wr.cell? ⟨bb, off + k * 5 + 1, none⟩ = some (.int .i64 (rB zs k)) := by rw [Nat.add_assoc]; exact cc 1 (by decide)
      have c2 : wr.cell? ⟨bb, off + k * 5 + 2, none⟩ = some (.int .i64 (rV zs k)) := by rw [Nat.add_assoc]; exact cc 2 (by decide)
      have c3 : wr.cell? ⟨bb, off + k * 5 + 3, none⟩ = some (.int .i64 (rL zs k)) := by rw [Nat.add_assoc]; exact cc 3 (by decide)
      have c4 : wr.cell? ⟨bb, off + k * 5 + 4, none⟩ = some (.int .i64 (rM zs k)) := by rw [Nat.add_assoc]; exact cc 4 (by decide)
      clear cc
      have CV := hide (fun W => validRoute_walk (rA zs k) (rB zs k) (rV zs k) (rL zs k) (rM zs k) W)
      have HBA : Hid (Below wr.heap.size wr (wr.alloc (.cells #[.int .i64 (rA zs k), .int .i64 (rB zs k), .int .i64 (rV zs k), .int .i64 (rL zs k), .int .i64 (rM zs k)] 33))) := hide ((Below.refl _ _).alloc (Nat.le_refl _) _)
      have HVA : Hid (HoldV (wr.alloc (.cells #[.int .i64 (rA zs k), .int .i64 (rB zs k), .int .i64 (rV zs k), .int .i64 (rL zs k), .int .i64 (rM zs k)] 33)) wr.heap.size #[.int .i64 (rA zs k), .int .i64 (rB zs k), .int .i64 (rV zs k), .int .i64 (rL zs k), .int .i64 (rM zs k)] 33) := hide (heap_alloc_new _ _)
      cases ho : rtOK (rA zs k) (rB zs k) (rV zs k) (rL zs k) (rM zs k) with
      | false =>
        rw [ho] at CV
        have E : Hid (srC zs n = 1 ∧ srS zs n = ⟨#[]⟩) := hide (by
          have h1 : srC zs n = 1 := by unfold srC; rw [if_neg (by omega), srAll_mono hlt ho]; rfl
          exact ⟨h1, by unfold srS; rw [h1]; rfl⟩)
        clear ho
        go_wp2_with ((go_at_call 15; refine (CV.out _).mono ?_; rintro e w1 ⟨rfl, hb1⟩))
        go_ret2
        rw [E.out.1, E.out.2]
        exact ⟨rfl, HB.out.trans ((HBA.out.trans (hb1.mono HBA.out.size)).mono HB.out.size)⟩
      | true =>
        rw [ho] at CV
        have HS : Hid (srAll zs (k + 1) = true) := hide (by show (srAll zs k && _) = true; rw [HAL.out, ho]; rfl)
        have HT2 : Hid ((srText zs (k + 1)).data.toList = ((srText zs k).data.toList ++ rtLine (rA zs k) (rB zs k) (rV zs k) (rL zs k) (rM zs k)) ++ [10]) := hide (srStep_line _ _ _ _ _ _)
        have HLL : Hid ((rtLine (rA zs k) (rB zs k) (rV zs k) (rL zs k) (rM zs k)).length ≤ 65) := hide (rtLine_len ho)
        have CW := hide (fun W hW => rwords_walk (rA zs k) (rB zs k) (rV zs k) (rL zs k) (rM zs k) W ho hW)
        clear ho
        go_wp2_with ((go_at_call 15; refine (CV.out _).mono ?_; rintro e w1 ⟨rfl, hb1⟩; have HV1 := HVA.out.next hb1; have g0 := HV1.cell 0 _ rfl; have g1 := HV1.cell 1 _ rfl; have g2 := HV1.cell 2 _ rfl; have g3 := HV1.cell 3 _ rfl; have g4 := HV1.cell 4 _ rfl))
        have HB1 := hide (HBA.out.trans (hb1.mono HBA.out.size))
        have HBL1 := hide (HBL.out.next HB1.out)
        have HBW := hide (HB.out.trans (HB1.out.mono HB.out.size))
        refine (CW.out _ (tab_later HT.out HBW.out HBW.out.size)).mono ?_
        rintro e w2 ⟨u, rfl, hu, hb2⟩
        have HBL2 := hide (HBL1.out.next hb2)
        have HBW2 := hide (HBW.out.trans (hb2.mono HBW.out.size))
        have CJ := hide (join_walk _ u _ ⟨#[32]⟩ w2 hu (rtWords_ne _ _ _ _ _) (by have := rtWords_len (rA zs k) (rB zs k) (rV zs k) (rL zs k) (rM zs k); omega) (by have := HLL.out; unfold rtLine at this; exact Nat.le_trans this (by decide)))
        clear hu hb2 hb1 HV1 g0 g1 g2 g3 g4 HBL1 HBW HB1 CW CV
        go_wp2_with fail
        refine CJ.out.mono ?_
        rintro e w3 ⟨rfl, hb3⟩
        have HBL3 := hide (HBL2.out.next hb3)
        have HBW3 := hide (HBW2.out.trans (hb3.mono HBW2.out.size))
        clear hb3 CJ
        have HLN := HLEN.out
        have HLR := HLL.out
        have CB1 := hide (bld_write w.heap.size w.heap.size (srText zs k).data.toList ⟨(rtLine (rA zs k) (rB zs k) (rV zs k) (rL zs k) (rM zs k)).toArray⟩ w3 HBL3.out (by rw [bytes_len]; omega) HBW3.out.size)
        clear HLN HLR
        go_wp2_with fail
        refine CB1.out.mono ?_
        rintro e w4 ⟨rfl, hbl4, hb4⟩
        have HBL4 : Hid (Bld w4 w.heap.size w.heap.size ((srText zs k).data.toList ++ rtLine (rA zs k) (rB zs k) (rV zs k) (rL zs k) (rM zs k))) := hide hbl4
        have HBW4 := hide (HBW3.out.trans hb4)
        have CB2 := hide (bld_write w.heap.size w.heap.size _ ⟨#[10]⟩ w4 HBL4.out (by have := HLEN.out; have := HLL.out; rw [List.length_append]; have e : (⟨#[10]⟩ : ByteArray).size = 1 := rfl; omega) HBW4.out.size)
        clear hb4 hbl4 CB1
        go_wp2_with fail
        refine CB2.out.mono ?_
        rintro e w5 ⟨rfl, hbl5, hb5⟩
        have HBL5 : Hid (Bld w5 w.heap.size w.heap.size (srText zs (k + 1)).data.toList) := hide (by rw [HT2.out]; exact hbl5)
        have HBW5 := hide (HBW4.out.trans hb5)
        have HLE5 : Hid ((srText zs (k + 1)).data.toList.length ≤ 66 * (k + 1)) := hide (by have := HLEN.out; have := HLL.out; rw [HT2.out, List.length_append, List.length_append]; show _ + 1 ≤ _; omega)
        clear hb5 hbl5 CB2
        go_wp2_with fail
        exact ⟨⟨k + 1, by omega, by go_num, HBW5, HBL5, HS, HLE5⟩, by simp [intOf]; omega⟩
    · have hkn : k = n := by omega
      subst hkn
      have E : Hid (srC zs k = 0 ∧ srS zs k = ⟨(srText zs k).data.toList.toArray⟩) := hide (by
          have h1 : srC zs k = 0 := by unfold srC; rw [if_neg (by omega), HAL.out]; rfl
          exact ⟨h1, by unfold srS; rw [h1]; simp⟩)
      go_wp2_with fail
      refine (bld_string _ _ _ _ HBL.out HB.out.size).mono ?_
      rintro e w1 ⟨rfl, hb1⟩
      go_wp2_with fail
      go_ret2
      rw [E.out.1, E.out.2]
      exact ⟨rfl, HB.out.trans hb1⟩
end Go.Proofs.YtmlpninkilcjaaaDoor
