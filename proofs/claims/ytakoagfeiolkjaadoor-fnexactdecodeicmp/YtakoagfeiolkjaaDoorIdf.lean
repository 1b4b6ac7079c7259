/-
Contracts of functions of this seat.
-/
import Derived.Test.YtakoagfeiolkjaaDoorRows
import Derived.WalkKit
import Derived.ProofKit
import Derived.OpenShut
import Derived.Test.YtakoagfeiolkjaaDoorIdd
import Derived.Test.YtakoagfeiolkjaaDoorIcd
namespace Go.Proofs.YtakoagfeiolkjaaDoor
open Go.ChangeShapes Go.WideShapes Go.ChangeAt Go.RowKit
set_option linter.unusedVariables false
set_option maxRecDepth 100000
theorem tnum_at (zs : List Int) (p : Nat) (h : p < zs.length) : tnum ((zs.drop p).take 1) = zs.getD p 0 := by
  have e : (zs.drop p).take 1 = [zs.getD p 0] := by
    rw [List.drop_eq_getElem_cons h, List.take_succ_cons, List.take_zero, List.getD_eq_getElem?_getD, List.getElem?_eq_getElem h]
    rfl
  rw [e]
  simp [tnum]
/-- DecodeIcmp of the program. -/
theorem implDecIcmp (zs : List Int) : DecIcmpP 12 ErrT zs (idT zs) (idK zs) (idR zs) (idB zs) (idC zs) := by
  intro a n cap W hn ha hcap hm he
  have bad : ∀ q : Int, idC zs = q → ¬ q = 0 → ∀ e w', e = Ending.returned (.tuple #[.agg #[.int .i64 0, .int .i64 0, .int .i64 0, .slice none 0 0], .int .i64 q]) ∧ Below W.heap.size W w' → ∃ v0 : Value, e = .returned (.tuple #[.agg #[.int .i64 (idT zs), .int .i64 (idK zs), .int .i64 (idR zs), v0], .int .i64 (idC zs)]) ∧ OwnB w' W.heap.size v0 (idB zs) ∧ Below W.heap.size W w' := by
    rintro q hq h0 e w' ⟨rfl, hb⟩
    obtain ⟨e0, e1, e2, e3⟩ := id_no (zs := zs) (by rw [hq]; exact h0)
    exact ⟨_, by rw [e0, e1, e2, hq], by rw [e3]; exact ⟨World.ownsRow_nil _ _ _ _, by simp⟩, hb⟩
  by_cases h0 : n < 8
  · exact (implDecI_short a n cap zs W hn ha hm he h0).mono (bad 2 (by unfold idC; rw [hn, if_pos h0]) (by decide))
  by_cases h1 : 65008 < n
  · exact (implDecI_long a n cap zs W hn ha hm he h1).mono (bad 7 (by unfold idC; rw [hn, if_neg h0, if_pos h1]) (by decide))
  by_cases hs : csum zs = 0
  · obtain ⟨b, off, e0, _, _⟩ := ha.2 0 (by omega)
    subst e0
    have hC : idC zs = 0 := by unfold idC; rw [hn, if_neg h0, if_neg h1, if_pos hs]
    obtain ⟨i0, i1, i2, i3⟩ := id_yes hC
    refine (implDecI_ok b off n cap zs W hn ha hm hcap (by omega) (by omega) hs (idT zs) (by rw [i0, tnum_at zs 0 (by omega)]) (idK zs) (by rw [i1, tnum_at zs 1 (by omega)]) (idR zs) i2.symm (idB zs) (by rw [i3, List.take_of_length_le (by rw [List.length_drop]; omega)])).mono ?_
    rintro e w' ⟨v, rfl, hO, hb⟩
    exact ⟨v, by rw [hC], hO, hb⟩
  · exact (implDecI_sum a n cap zs W hn ha hm he (by omega) (by omega) hs).mono (bad 3 (by unfold idC; rw [hn, if_neg h0, if_neg h1, if_neg hs]) (by decide))
end Go.Proofs.YtakoagfeiolkjaaDoor
