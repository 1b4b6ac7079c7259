/-
Contracts of functions of this seat.
-/
import Derived.Test.YtcnfnimgpiaamaaDoorRows
import Derived.WalkKit
import Derived.ProofKit
import Derived.OpenShut
import Derived.Test.YtcnfnimgpiaamaaDoorSd7
import Derived.Test.YtcnfnimgpiaamaaDoorL1DecodeSegment
namespace Go.Proofs.YtcnfnimgpiaamaaDoor
open Go.ChangeShapes Go.WideShapes Go.ChangeAt Go.RowKit
set_option linter.unusedVariables false
set_option maxRecDepth 100000
theorem dsP_refuse {f : Nat} {a : Option Addr} {n c : Nat} {s d C : Int} {W : World} (h : Calls Tryd.prog f #[.slice a n c, .int .i64 s, .int .i64 d] W fun e w' => e = .returned (.tuple #[.agg #[.int .i64 0, .int .i64 0, .int .i64 0, .int .i64 0, .int .i64 0, .int .i64 0, .int .i64 0, .bool false, .int .i64 0, .bool false, .slice none 0 0, .slice none 0 0], .int .i64 C]) ∧ Below W.heap.size W w') :
    Calls Tryd.prog f #[.slice a n c, .int .i64 s, .int .i64 d] W fun e w' => ∃ v0_0 v0_1 : Value, e = .returned (.tuple #[.agg #[.int .i64 0, .int .i64 0, .int .i64 0, .int .i64 0, .int .i64 0, .int .i64 0, .int .i64 0, .bool false, .int .i64 0, .bool false, v0_0, v0_1], .int .i64 C]) ∧ OwnI w' W.heap.size 53 2 v0_0 0 [] ∧ OwnB w' W.heap.size v0_1 [] ∧ (∀ b, v0_0.ownBlock = some b → v0_1.ownBlock ≠ some b) ∧ Below W.heap.size W w' := by
  refine h.mono ?_
  rintro e w' ⟨rfl, hb⟩
  exact ⟨_, _, rfl, ⟨rfl, .inl ⟨rfl, rfl⟩⟩, ⟨⟨rfl, .inl ⟨rfl, rfl⟩⟩, by simp⟩, by simp [Value.ownBlock], hb⟩
theorem rdO_same (zs : List Int) (Q : Nat) : (zs.take Q).drop 20 = (zs.drop 20).take (Q - 20) := List.drop_take ..
/-- The model's DecodeSegment where it refuses. -/
theorem specDecSeg_bad (zs : List Int) (s d : Int) (Pre : World → Prop) (h : dsC zs s d ≠ 0) : DecodeSegmentP 12 Pre zs s d 0 0 0 0 0 0 0 false 0 false 0 [] [] (dsC zs s d) := by
  intro a n c W hn ha hcap _ _
  refine dsP_refuse ?_
  cases h0 : adrB s with
  | false => rw [show dsC zs s d = 1 by unfold dsC; simp [h0]]; exact specDecS_f1 a n c s d zs W h0
  | true =>
    cases h1 : adrB d with
    | false => rw [show dsC zs s d = 1 by unfold dsC; simp [h0, h1]]; exact specDecS_f2 a n c s d zs W h0 h1
    | true =>
      by_cases h20 : n < 20
      · rw [show dsC zs s d = 2 by unfold dsC; simp [h0, h1, hn, h20]]; exact specDecS_short a n c s d zs W h0 h1 h20
      · obtain ⟨b, off, rfl, _, _⟩ := ha.2 0 (by omega)
        by_cases hm : 65515 < n
        · rw [show dsC zs s d = 7 by unfold dsC; simp [h0, h1, hn, h20, hm]]; exact specDecS_size _ n c s d zs W h0 h1 hm
        · by_cases hl : dsS zs < 20
          · rw [show dsC zs s d = 5 by unfold dsC; simp [h0, h1, hn, h20, hm, hl]]; exact specDecS_low b off n c s d zs W h0 h1 (by omega) (by omega) hn ha hcap hl
          · by_cases hh : n < dsS zs
            · rw [show dsC zs s d = 5 by unfold dsC; simp [h0, h1, hn, h20, hm, hh]]; exact specDecS_high b off n c s d zs W h0 h1 (by omega) (by omega) hn ha hcap hl hh
            · by_cases hf : fsum s d 6 zs = 0
              · cases hr : rdO ((zs.take (dsS zs)).drop 20) ⟨0, false, 0, false, []⟩ with
                | some st => exact absurd (by unfold dsC; simp [h0, h1, hn, h20, hm, hl, hh, hf, hr]) h
                | none =>
                  rw [show dsC zs s d = 10 by unfold dsC; simp [h0, h1, hn, h20, hm, hl, hh, hf, hr]]
                  rw [rdO_same] at hr
                  refine (specDecS_mid b off n c s d zs W h0 h1 (by omega) (by omega) hn ha hcap hl (by omega) hf).mono ?_
                  intro x w' hx
                  unfold DcP at hx
                  rcases hx with ⟨_, rfl, hb⟩ | ⟨st, _, _, hr2, _⟩
                  · exact ⟨rfl, hb⟩
                  · rw [hr] at hr2; cases hr2
              · rw [show dsC zs s d = 3 by unfold dsC; simp [h0, h1, hn, h20, hm, hl, hh, hf]]; exact specDecS_sum b off n c s d zs W h0 h1 (by omega) (by omega) hn ha hcap hl (by omega) hf
/-- .. and where it takes them. -/
theorem specDecSeg_ok (zs : List Int) (s d : Int) (Pre : World → Prop) (st : OSt) (h0 : adrB s = true) (h1 : adrB d = true) (h20 : 20 ≤ zs.length) (hm : zs.length ≤ 65515) (hl : ¬ dsS zs < 20) (hh : dsS zs ≤ zs.length) (hf : fsum s d 6 zs = 0) (hr : rdO ((zs.take (dsS zs)).drop 20) ⟨0, false, 0, false, []⟩ = some st) :
    DecodeSegmentP 12 Pre zs s d (tnum (zs.take 2)) (tnum ((zs.drop 2).take 2)) (tnum ((zs.drop 4).take 4)) (tnum ((zs.drop 8).take 4)) (zs.getD 13 0 % 64) (tnum ((zs.drop 14).take 2)) st.m st.hs st.sc st.so (st.L.length / 2) st.L (zs.drop (dsS zs)) 0 := by
  intro a n c W hn ha hcap _ _
  obtain ⟨b, off, rfl, _, _⟩ := ha.2 0 (by omega)
  refine (specDecS_mid b off n c s d zs W h0 h1 (by omega) (by omega) hn ha hcap hl (by omega) hf).mono ?_
  intro x w' hx
  unfold DcP at hx
  rw [rdO_same] at hr
  rcases hx with ⟨hr2, _⟩ | ⟨st2, v0, v1, hr2, rfl, hI, hO, hap, hb⟩
  · rw [hr] at hr2; cases hr2
  · rw [hr] at hr2
    cases hr2
    exact ⟨v0, v1, rfl, hI, hO, hap, hb⟩
end Go.Proofs.YtcnfnimgpiaamaaDoor
