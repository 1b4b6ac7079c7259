/-
Contracts of functions of this seat.
-/
import Derived.Test.YtcnfnimgpiaamaaDoorRows
import Derived.WalkKit
import Derived.ProofKit
import Derived.OpenShut
import Derived.Test.YtcnfnimgpiaamaaDoorSwb
namespace Go.Proofs.YtcnfnimgpiaamaaDoor
open Go.ChangeShapes Go.WideShapes Go.ChangeAt Go.RowKit
set_option linter.unusedVariables false
set_option maxRecDepth 100000
theorem Tryd.infoB2 : (Tryd.prog.info? 5).map (fun i => (i.zero, i.size, i.bytes)) = some (some (.int .u8 0), 1, 1) := Tryd.infoB
set_option maxHeartbeats 2000000 in
/-- utf8.AppendRune of a small rune. -/
theorem appendR_walk (B : Nat) (v : Value) (n : Nat) (xs : List Value) (c : Int) (h0 : 0 ≤ c) (h1 : c ≤ 127) (w : World) (hown : w.ownsRow B 5 1 v n xs) (hn : n ≤ 100000) (hB : B ≤ w.heap.size) :
    Calls Tryd.prog 125 #[v, .int .i32 c] w fun e w' => ∃ v', e = .returned v' ∧ w'.ownsRow B 5 1 v' (n + 1) (xs ++ [.int .u8 c]) ∧ (w.alloc (.cells #[.int .u8 c] 5)).grownBy w' v.ownBlock := by
  obtain ⟨i, hi, hz0, hz1, hz2⟩ := info_parts Tryd.infoB
  have e1 : IntKind.u32.wrap c = c := by rw [IntKind.wrap_u32]; omega
  have e2 : IntKind.u8.wrap c = c := by rw [IntKind.wrap_u8]; omega
  have HO := hide hown
  clear hown
  go_enter Tryd.func125, Tryd.ntmps125
  go_wp2_with (first | (at_builtin; refine wpList_append_own _ rfl _ _ 23 rfl B 5 i _ 1 1 Tryd.underlying23 hi hz0 hz1 hz2 rfl (by decide) v n xs rfl (HO.out.alloc _) ⟨w.heap.size, 0, none⟩ 1 1 (bval [c]) rfl rfl (cell_one _ _ _) (oneCells _) (by unfold maxLen; omega) (by omega) (by rw [World.size_alloc]; omega) ?_))
  intro v' w3 hown' hgrow hnil
  go_wp2_with fail
  go_ret
  exact ⟨v', rfl, hown', hgrow⟩
/-- Every iterator over a string is as it was. -/
def KI (w w' : World) : Prop := ∀ (k : Nat) (s : ByteArray) (p : Nat), w.heap[k]? = some (.stringIter s p) → w'.heap[k]? = some (.stringIter s p)
theorem KI.refl (w : World) : KI w w := fun _ _ _ h => h
theorem KI.trans {a b c : World} (h : KI a b) (k : KI b c) : KI a c := fun q s p e => k q s p (h q s p e)
theorem KI.alloc (w : World) (o : Obj) : KI w (w.alloc o) := fun k s p h => by
  have hlt : k < w.heap.size := (Array.getElem?_eq_some_iff.1 h).1
  rw [Lib.alloc_old w o k hlt]; exact h
theorem KI.set {w : World} {b i : Nat} {y : Value} {vs : Array Value} {T : TypeId} (hb : w.heap[b]? = some (.cells vs T (0, 0))) : KI w (w.setCell ⟨b, i, none⟩ y) := fun k s p h => by
  rw [heap_setCell_other w ⟨b, i, none⟩ k y (fun e => by rw [e] at h; rw [show w.heap[b]? = some (.stringIter s p) from h] at hb; cases hb)]
  exact h
theorem KI.grown {w w' : World} {B n : Nat} {v : Value} {xs : List Value} {e : TypeId} (ho : w.ownsRow B e 1 v n xs) (hg : w.grownBy w' v.ownBlock) : KI w w' := fun k s p h => by
  have hlt : k < w.heap.size := (Array.getElem?_eq_some_iff.1 h).1
  refine (hg.block k hlt (fun ek => ?_)).trans h
  rcases ho.2 with ⟨hv, _⟩ | ⟨g, cap, cur, hv, hB, hgc, _⟩
  · rw [hv] at ek; simp [Value.ownBlock] at ek
  · rw [hv] at ek
    have : k = g := by simpa [Value.ownBlock] using ek
    subst this
    rw [h] at hgc; cases hgc
/-- copyCheck of a builder. -/
theorem cc_walk (B b : Nat) (l : List UInt8) (w : World) (h : Bld w B b l) :
    Calls Tryd.prog 102 #[.pointer (some ⟨b, 0, none⟩)] w fun e w' => e = .returned (.tuple #[]) ∧ Lib.BuilderAt bdT 5 B b (.pointer (some ⟨b, 0, none⟩)) (Lib.byteCells l) w' ∧ Below B w w' ∧ KI w w' := by
  rcases h with h | h
  · refine (Any.Builder_copyCheck_fresh { Tryd.lays156 with } Tryd.Builder_Extra_156.toX72 b w h.cell0 h.shape h.frozen0).mono ?_
    rintro e w' ⟨rfl, rfl⟩
    have h2 := h
    obtain ⟨_, v, hb, _⟩ := h2
    exact ⟨rfl, h.used _, (Below.refl B w).setCell (p := ⟨b, 0, none⟩) h.1 _, KI.set hb⟩
  · refine (Any.Builder_copyCheck_used { Tryd.lays156 with } Tryd.Builder_Extra_156.toX72 b w h.cell0).mono ?_
    rintro e w' ⟨rfl, rfl⟩
    exact ⟨rfl, h, Below.refl B _, KI.refl _⟩
set_option maxHeartbeats 2000000 in
/-- (*strings.Builder).WriteRune of a small rune. -/
theorem wrune_walk (B b : Nat) (l : List UInt8) (c : Nat) (hc : c ≤ 127) (w : World) (h : Bld w B b l) (hl : l.length ≤ 1000) (hB : B ≤ w.heap.size) :
    Calls Tryd.prog 106 #[.pointer (some ⟨b, 0, none⟩), .int .i32 (c : Int)] w fun e w' => e = .returned (.tuple #[.int .i64 1, .nilIface]) ∧ Bld w' B b (l ++ [UInt8.ofNat c]) ∧ Below B w w' ∧ KI w w' := by
  have CC := hide (cc_walk B b l w h)
  have hlen : (Lib.byteCells l).length = l.length := Lib.byteCells_length l
  have HE : Hid (Lib.byteCells (l ++ [UInt8.ofNat c]) = Lib.byteCells l ++ [.int .u8 (c : Int)]) := hide (by
    unfold Lib.byteCells
    rw [List.map_append]
    simp only [List.map_cons, List.map_nil, UInt8.toNat_ofNat']
    rw [Nat.mod_eq_of_lt (by omega)])
  have HL := hide hlen
  clear h hlen
  go_enter Tryd.func106, Tryd.ntmps106
  go_wp2_with fail
  refine CC.out.mono ?_
  rintro e w1 ⟨rfl, ⟨hb, v, hbk, hown, hne⟩, hb1, hki1⟩
  have HKI1 := hide hki1
  clear hki1
  clear CC
  have HHB := hide hb
  have HBK := hide hbk
  have HO := hide hown
  have HNE := hide hne
  have HB1 := hide hb1
  have hsz : B ≤ w1.heap.size := Nat.le_trans hB hb1.size
  rw [HL.out] at hown
  have HO2 := hide hown
  obtain ⟨av, nv, cv, ev⟩ : ∃ av nv cv, v = .slice av nv cv ∧ nv = l.length := by
    rcases hown.2 with ⟨hv, h0⟩ | ⟨g, cap, cur, hv, _⟩
    · exact ⟨none, 0, 0, hv, h0.symm⟩
    · exact ⟨_, _, _, hv, rfl⟩
  obtain ⟨ev, en⟩ := ev
  have c0 : w1.cell? ⟨b, 0, none⟩ = some (.pointer (some ⟨b, 0, none⟩)) := by rw [Lib.cell_of_heap hbk]; rfl
  have c1 : w1.cell? ⟨b, 1, none⟩ = some v := by rw [Lib.cell_of_heap hbk]; rfl
  have CA := hide (appendR_walk B v l.length (Lib.byteCells l) (c : Int) (by omega) (by omega) w1 hown (by omega) hsz)
  clear hb hbk hown hne hb1
  subst ev
  subst en
  go_wp2_with fail
  refine CA.out.mono ?_
  rintro e w2 ⟨v', rfl, hown', hgrow⟩
  clear CA
  have hlt : b < w1.heap.size := by
    rcases Nat.lt_or_ge b w1.heap.size with h' | h'
    · exact h'
    · have := HBK.out; simp [Array.getElem?_eq_none h'] at this
  have hb2 : w2.heap[b]? = some (.cells #[.pointer (some ⟨b, 0, none⟩), .slice av l.length cv] bdT (0, 0)) := by
    rw [hgrow.block b (by simp; omega) (fun e => HNE.out e.symm), Lib.alloc_old w1 _ b hlt]
    exact HBK.out
  have d0 : w2.cell? ⟨b, 0, none⟩ = some (.pointer (some ⟨b, 0, none⟩)) := by rw [Lib.cell_of_heap hb2]; rfl
  have d1 : w2.cell? ⟨b, 1, none⟩ = some (.slice av l.length cv) := by rw [Lib.cell_of_heap hb2]; rfl
  have f1 : w2.frozen? ⟨b, 1, none⟩ = false := Lib.frozen_of_heap hb2 1
  obtain ⟨g, cap, rfl⟩ : ∃ g cap, v' = .slice (some ⟨g, 0, none⟩) (l.length + 1) cap := by
    rcases hown'.2 with ⟨_, h0⟩ | ⟨g, cap, cur, hv, _⟩
    · omega
    · exact ⟨g, cap, hv⟩
  have hbel : Below B w w2 := (HB1.out.alloc hsz _).grown hgrow (by simp; omega) (fun k hk => (HO2.out.lt k hk).1)
  have HBEL := hide (hbel.setCell (p := ⟨b, 1, none⟩) HHB.out (.slice (some ⟨g, 0, none⟩) (l.length + 1) cap))
  have HP := hide (Lib.BuilderAt.put (T := bdT) (e := 5) HHB.out hb2 (bs' := Lib.byteCells l ++ [.int .u8 (c : Int)]) (by rw [List.length_append, HL.out]; exact hown') (by decide))
  have HKI2 := hide (((HKI1.out.trans (KI.alloc w1 (.cells #[.int .u8 (c : Int)] 5))).trans (KI.grown (HO2.out.alloc _) hgrow)).trans (KI.set (i := 1) (y := .slice (some ⟨g, 0, none⟩) (l.length + 1) cap) hb2))
  have e9 : ((l.length : Int) + 1) - (l.length : Int) = 1 := by omega
  clear hbel hown' hgrow hb2 c0 c1
  go_wp2_with fail
  go_ret2
  exact ⟨rfl, .inr (by rw [HE.out]; exact HP.out), HBEL.out, HKI2.out⟩
theorem bld_len (B b : Nat) (l : List UInt8) (w : World) (h : Bld w B b l) :
    Calls Tryd.prog 107 #[.pointer (some ⟨b, 0, none⟩)] w fun e w' => e = .returned (.int .i64 (l.length : Int)) ∧ w' = w := by
  have k := Any.Builder_Len Tryd.lays170 B b (Lib.byteCells l) w h
  rw [Lib.byteCells_length] at k
  exact k
end Go.Proofs.YtcnfnimgpiaamaaDoor
