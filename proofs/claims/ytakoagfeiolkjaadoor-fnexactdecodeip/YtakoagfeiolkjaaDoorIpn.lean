/-
Contracts of functions of this seat.
-/
import Derived.Test.YtakoagfeiolkjaaDoorRows
import Derived.WalkKit
import Derived.ProofKit
import Derived.OpenShut
import Derived.Test.YtakoagfeiolkjaaDoorIpm
namespace Go.Proofs.YtakoagfeiolkjaaDoor
open Go.ChangeShapes Go.WideShapes Go.ChangeAt Go.RowKit
set_option linter.unusedVariables false
set_option maxRecDepth 100000
/-- What DecodeIP tells of bytes. -/
def dpI (zs : List Int) (x : Int) : Int := if dpC zs = 0 then x else 0
def dpB (zs : List Int) (x : Bool) : Bool := if dpC zs = 0 then x else false
def dpL (zs : List Int) (l : List Int) : List Int := if dpC zs = 0 then l else []
theorem specDecIP (zs : List Int) (Pre : World → Prop) : DecPacketP 17 Pre zs (dpI zs (zs.getD 1 0)) (dpI zs (tnum ((zs.drop 4).take 2))) (dpB zs (decide (dpF zs / 16384 % 2 = 1))) (dpB zs (decide (dpF zs / 8192 % 2 = 1))) (dpI zs (dpF zs % 8192 * 8)) (dpI zs (zs.getD 8 0)) (dpI zs (zs.getD 9 0)) (dpI zs (tnum ((zs.drop 12).take 4))) (dpI zs (tnum ((zs.drop 16).take 4))) (dpL zs ((zs.drop 20).take ((ihl zs).toNat - 20))) (dpL zs ((zs.drop (ihl zs).toNat).take ((dpW zs).toNat - (ihl zs).toNat))) (dpC zs) := by
  intro a n cap W hn ha hc hm _
  have bad : dpC zs ≠ 0 → ∀ e w', e = Ending.returned (.tuple #[.agg #[.int .i64 0, .int .i64 0, .bool false, .bool false, .int .i64 0, .int .i64 0, .int .i64 0, .int .i64 0, .int .i64 0, .slice none 0 0, .slice none 0 0], .int .i64 (dpC zs)]) → Below W.heap.size W w' →
      ∃ v0 v1 : Value, e = .returned (.tuple #[.agg #[.int .i64 (dpI zs (zs.getD 1 0)), .int .i64 (dpI zs (tnum ((zs.drop 4).take 2))), .bool (dpB zs (decide (dpF zs / 16384 % 2 = 1))), .bool (dpB zs (decide (dpF zs / 8192 % 2 = 1))), .int .i64 (dpI zs (dpF zs % 8192 * 8)), .int .i64 (dpI zs (zs.getD 8 0)), .int .i64 (dpI zs (zs.getD 9 0)), .int .i64 (dpI zs (tnum ((zs.drop 12).take 4))), .int .i64 (dpI zs (tnum ((zs.drop 16).take 4))), v0, v1], .int .i64 (dpC zs)]) ∧ OwnB w' W.heap.size v0 (dpL zs ((zs.drop 20).take ((ihl zs).toNat - 20))) ∧ OwnB w' W.heap.size v1 (dpL zs ((zs.drop (ihl zs).toNat).take ((dpW zs).toNat - (ihl zs).toNat))) ∧ (∀ b, v0.ownBlock = some b → v1.ownBlock ≠ some b) ∧ Below W.heap.size W w' := by
    rintro hne e w' rfl hb
    refine ⟨.slice none 0 0, .slice none 0 0, by simp only [dpI, dpB, if_neg hne], ?_, ?_, fun b hb => by simp [Value.ownBlock] at hb, hb⟩
    · unfold dpL; rw [if_neg hne]; exact ⟨World.ownsRow_nil _ _ _ _, by simp⟩
    · unfold dpL; rw [if_neg hne]; exact ⟨World.ownsRow_nil _ _ _ _, by simp⟩
  by_cases h : rhC zs = 0
  · have h20 : ¬ n < 20 := fun hlt => by
      unfold rhC at h
      rw [if_pos (by omega)] at h
      cases h
    obtain ⟨b, off, rfl, _⟩ := ha.2 0 (by omega)
    refine (specDecIP_mid b off n cap zs W hn ha hm hc h).mono ?_
    rintro e w' (⟨hne, he, hb⟩ | ⟨h0, v0, v1, rfl, o0, o1, ap, hb⟩)
    · exact bad hne e w' he hb
    · refine ⟨v0, v1, ?_, ?_, ?_, ap, hb⟩
      · simp [dpI, dpB, h0]
      · unfold dpL; rw [if_pos h0]; exact o0
      · unfold dpL; rw [if_pos h0]; exact o1
  · have hC : dpC zs = rhC zs := by unfold dpC; rw [if_pos h]
    refine (specDecIP_head a n cap zs W hn ha hm hc h).mono ?_
    rintro e w' ⟨he, hb⟩
    exact bad (by rw [hC]; exact h) e w' (by rw [hC]; exact he) hb
theorem dpL_len0 (zs : List Int) (hz : ∀ z ∈ zs, 0 ≤ z ∧ z ≤ 255) : (dpL zs ((zs.drop 20).take ((ihl zs).toNat - 20))).length ≤ 1048576 := by
  unfold dpL
  have h := getD_bd hz 0
  have : ihl zs = zs.getD 0 0 % 16 * 4 := rfl
  split
  · rw [List.length_take]; omega
  · simp
theorem dpL_len1 (zs : List Int) (hz : ∀ z ∈ zs, 0 ≤ z ∧ z ≤ 255) (hl : zs.length ≤ 1048576) : (dpL zs ((zs.drop (ihl zs).toNat).take ((dpW zs).toNat - (ihl zs).toNat))).length ≤ 1048576 := by
  unfold dpL
  split
  · rw [List.length_take, List.length_drop]; omega
  · simp
end Go.Proofs.YtakoagfeiolkjaaDoor
