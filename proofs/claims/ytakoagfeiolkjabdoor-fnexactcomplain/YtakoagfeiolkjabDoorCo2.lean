/-
Contracts of functions of this seat.
-/
import Derived.Test.YtakoagfeiolkjabDoorRows
import Derived.WalkKit
import Derived.ProofKit
import Derived.OpenShut
import Derived.Test.YtakoagfeiolkjabDoorCom
import Derived.Test.YtakoagfeiolkjabDoorMay
import Derived.Test.YtakoagfeiolkjabDoorIce
import Derived.Test.YtakoagfeiolkjabDoorL1c
namespace Go.Proofs.YtakoagfeiolkjabDoor
open Go.ChangeShapes Go.WideShapes Go.ChangeAt Go.RowKit
set_option linter.unusedVariables false
set_option maxRecDepth 100000
/-- Is there a complaint? -/
def coB (x0 x1 x4 x5 x6 x7 x8 : Int) (n0 : Nat) (z1 : List Int) (fr kd cd rs : Int) : Bool := mayB x0 x1 x4 x5 x6 x7 x8 n0 z1 && adrB fr && (decide (kd = 3) || decide (kd = 11)) && inB cd 0 255 && inB rs 0 4294967295
/-- How much of a packet's bytes a complaint quotes. -/
def coE (n0 n1 : Nat) : Nat := if 8 ≤ n1 then 28 + n0 else 20 + n0 + n1
def coI (b : Bool) (x : Int) : Int := if b then x else 0
/-- A complaint's payload. -/
def coL (x0 x1 : Int) (x2 x3 : Bool) (x4 x5 x6 x7 x8 : Int) (z0 z1 : List Int) (fr kd cd rs : Int) : List Int := if coB x0 x1 x4 x5 x6 x7 x8 z0.length z1 fr kd cd rs then icL kd cd rs ((ipL x0 x1 x2 x3 x4 x5 x6 x7 x8 z0 z1).take (coE z0.length z1.length)) else []
theorem coL_len (x0 x1 : Int) (x2 x3 : Bool) (x4 x5 x6 x7 x8 : Int) (z0 z1 : List Int) (fr kd cd rs : Int) : (coL x0 x1 x2 x3 x4 x5 x6 x7 x8 z0 z1 fr kd cd rs).length ≤ 1048576 := by
  unfold coL
  split
  · exact icL_len _ _ _ _
  · simp
theorem ipL_is {x0 x1 x4 x5 x6 x7 x8 : Int} {x2 x3 : Bool} {z0 z1 : List Int} (h : ipC x0 x1 x4 x5 x6 x7 x8 z0.length z1.length = 0) : (ipL x0 x1 x2 x3 x4 x5 x6 x7 x8 z0 z1).length = 20 + z0.length + z1.length ∧ z0.length ≤ 40 ∧ 20 + z0.length + z1.length ≤ 65535 := by
  obtain ⟨hok, _⟩ := ipC_adr h
  obtain ⟨_, _, _, _, _, _, _, l0, _⟩ := pkOK_parts hok
  have h' := h
  unfold ipC at h'
  rw [hok, if_pos rfl] at h'
  refine ⟨?_, l0, ?_⟩
  · unfold ipL
    rw [if_pos h, List.length_append, ipHead_len]
  · by_cases k : 65535 < 20 + (z0.length : Int) + (z1.length : Int) ∨ 65535 < x4 + (z1.length : Int)
    · rw [if_pos k] at h'; cases h'
    · omega
/-- Complain of the model. -/
theorem specComplain (x0 x1 : Int) (x2 x3 : Bool) (x4 x5 x6 x7 x8 : Int) (z0 z1 : List Int) (fr kd cd rs : Int) (Pre : World → Prop) : ComplainP 33 Pre x0 x1 x2 x3 x4 x5 x6 x7 x8 z0 z1 fr kd cd rs 0 0 false false 0 (coI (coB x0 x1 x4 x5 x6 x7 x8 z0.length z1 fr kd cd rs) 64) (coI (coB x0 x1 x4 x5 x6 x7 x8 z0.length z1 fr kd cd rs) 1) (coI (coB x0 x1 x4 x5 x6 x7 x8 z0.length z1 fr kd cd rs) fr) (coI (coB x0 x1 x4 x5 x6 x7 x8 z0.length z1 fr kd cd rs) x7) [] (coL x0 x1 x2 x3 x4 x5 x6 x7 x8 z0 z1 fr kd cd rs) (if coB x0 x1 x4 x5 x6 x7 x8 z0.length z1 fr kd cd rs then 0 else 1) := by
  intro a0 n0 c0 a1 n1 c1 W h0n h0a k0 m0 h1n h1a k1 m1 _
  subst h0n h1n
  have cM := fun (V : World) (hb : Below W.heap.size W V) => specMay x0 x1 x2 x3 x4 x5 x6 x7 x8 z0 z1 (fun _ => True) a0 _ c0 a1 _ c1 V rfl (h0a.below hb (Nat.le_refl _)) k0 m0 rfl (h1a.below hb (Nat.le_refl _)) k1 m1 trivial
  cases hB : coB x0 x1 x4 x5 x6 x7 x8 z0.length z1 fr kd cd rs with
  | false =>
    have hL : coL x0 x1 x2 x3 x4 x5 x6 x7 x8 z0 z1 fr kd cd rs = [] := by unfold coL; rw [hB]; rfl
    rw [hL]
    have fin : ∀ e w', e = Ending.returned (.tuple #[.agg #[.int .i64 0, .int .i64 0, .bool false, .bool false, .int .i64 0, .int .i64 0, .int .i64 0, .int .i64 0, .int .i64 0, .slice none 0 0, .slice none 0 0], .int .i64 1]) ∧ Below W.heap.size W w' → ∃ v0_0 v0_1 : Value, e = .returned (.tuple #[.agg #[.int .i64 0, .int .i64 0, .bool false, .bool false, .int .i64 0, .int .i64 (coI false 64), .int .i64 (coI false 1), .int .i64 (coI false fr), .int .i64 (coI false x7), v0_0, v0_1], .int .i64 (if false = true then 0 else 1)]) ∧ OwnB w' W.heap.size v0_0 [] ∧ OwnB w' W.heap.size v0_1 [] ∧ (∀ b, v0_0.ownBlock = some b → v0_1.ownBlock ≠ some b) ∧ Below W.heap.size W w' := by
      rintro e w' ⟨rfl, hb⟩
      exact ⟨_, _, rfl, ⟨World.ownsRow_nil _ _ _ _, by simp⟩, ⟨World.ownsRow_nil _ _ _ _, by simp⟩, fun b h => by simp [Value.ownBlock] at h, hb⟩
    cases hM : mayB x0 x1 x4 x5 x6 x7 x8 z0.length z1 with
    | false => exact (specCom_may x0 x1 x2 x3 x4 x5 x6 x7 x8 a0 _ c0 a1 _ c1 fr kd cd rs _ W hM cM).mono fin
    | true =>
      cases h1 : adrB fr with
      | false => exact (specCom_from x0 x1 x2 x3 x4 x5 x6 x7 x8 a0 _ c0 a1 _ c1 fr kd cd rs _ W hM h1 cM).mono fin
      | true =>
        by_cases k3 : kd = 3
        · cases h3 : inB cd 0 255 with
          | false => exact (specCom_code3 x0 x1 x2 x3 x4 x5 x6 x7 x8 a0 _ c0 a1 _ c1 fr kd cd rs _ W hM h1 h3 k3 cM).mono fin
          | true =>
            cases h4 : inB rs 0 4294967295 with
            | false => exact (specCom_rest3 x0 x1 x2 x3 x4 x5 x6 x7 x8 a0 _ c0 a1 _ c1 fr kd cd rs _ W hM h1 h3 h4 k3 cM).mono fin
            | true => unfold coB at hB; rw [hM, h1, h3, h4, decide_eq_true k3] at hB; cases hB
        · by_cases k11 : kd = 11
          · cases h3 : inB cd 0 255 with
            | false => exact (specCom_code11 x0 x1 x2 x3 x4 x5 x6 x7 x8 a0 _ c0 a1 _ c1 fr kd cd rs _ W hM h1 h3 k11 cM).mono fin
            | true =>
              cases h4 : inB rs 0 4294967295 with
              | false => exact (specCom_rest11 x0 x1 x2 x3 x4 x5 x6 x7 x8 a0 _ c0 a1 _ c1 fr kd cd rs _ W hM h1 h3 h4 k11 cM).mono fin
              | true => unfold coB at hB; rw [hM, h1, h3, h4, decide_eq_true k11, Bool.or_true] at hB; cases hB
          · exact (specCom_kind x0 x1 x2 x3 x4 x5 x6 x7 x8 a0 _ c0 a1 _ c1 fr kd cd rs _ W hM h1 k3 k11 cM).mono fin
  | true =>
    have hL : coL x0 x1 x2 x3 x4 x5 x6 x7 x8 z0 z1 fr kd cd rs = icL kd cd rs ((ipL x0 x1 x2 x3 x4 x5 x6 x7 x8 z0 z1).take (coE z0.length z1.length)) := by unfold coL; rw [hB]; rfl
    rw [hL]
    have hB' := hB
    unfold coB at hB'
    simp only [Bool.and_eq_true, Bool.or_eq_true, decide_eq_true_eq] at hB'
    obtain ⟨⟨⟨⟨hM, h1⟩, hk⟩, h3⟩, h4⟩ := hB'
    have hC : ipC x0 x1 x4 x5 x6 x7 x8 z0.length z1.length = 0 := by
      have h := hM
      unfold mayB at h
      simp only [Bool.and_eq_true, decide_eq_true_eq] at h
      exact h.1.1.1.1
    obtain ⟨hlen, l0, l1⟩ := ipL_is (x2 := x2) (x3 := x3) hC
    have cE : ∀ V, Below W.heap.size W V → Calls Tryd.prog 24 #[.agg #[.int .i64 x0, .int .i64 x1, .bool x2, .bool x3, .int .i64 x4, .int .i64 x5, .int .i64 x6, .int .i64 x7, .int .i64 x8, .slice a0 z0.length c0, .slice a1 z1.length c1]] V fun e w' => ∃ v, e = .returned (.tuple #[v, .int .i64 0]) ∧ OwnB w' V.heap.size v (ipL x0 x1 x2 x3 x4 x5 x6 x7 x8 z0 z1) ∧ Below V.heap.size V w' := fun V hb => by
      have h := specEncIP x0 x1 x2 x3 x4 x5 x6 x7 x8 z0 z1 (fun _ => True) a0 _ c0 a1 _ c1 V rfl (h0a.below hb (Nat.le_refl _)) k0 m0 rfl (h1a.below hb (Nat.le_refl _)) k1 m1 trivial
      rw [hC] at h
      exact h
    generalize hLL : ipL x0 x1 x2 x3 x4 x5 x6 x7 x8 z0 z1 = L at *
    have hEN : coE z0.length z1.length ≤ 20 + z0.length + z1.length ∧ (coE z0.length z1.length = 28 + z0.length ∨ (coE z0.length z1.length = 20 + z0.length + z1.length ∧ 20 + z0.length + z1.length < 28 + z0.length)) := by
      unfold coE
      split <;> omega
    generalize coE z0.length z1.length = EN at *
    have cI : ∀ (V : World) (a : Option Addr) (cap : Nat), Arr V a (L.take EN) → EN ≤ cap → Calls Tryd.prog 9 #[.agg #[.int .i64 kd, .int .i64 cd, .int .i64 rs, .slice a EN cap]] V fun e w' => ∃ v, e = .returned (.tuple #[v, .int .i64 0]) ∧ OwnB w' V.heap.size v (icL kd cd rs (L.take EN)) ∧ Below V.heap.size V w' := fun V a cap hA hcap => by
      have hl : (L.take EN).length = EN := by rw [List.length_take]; omega
      have h := specEncIcmp kd cd rs (L.take EN) (fun _ => True) a EN cap V hl hA hcap (by omega) trivial
      have hz : icC kd cd rs (L.take EN).length = 0 := by
        unfold icC icOK
        rw [h3, h4, show inB kd 0 255 = true by rcases hk with rfl | rfl <;> rfl, hl]
        rw [if_pos (by decide), if_neg (by omega)]
      rw [hz] at h
      exact h
    have fin : ∀ (e : Ending) (w' : World), (∃ v : Value, e = .returned (.tuple #[.agg #[.int .i64 0, .int .i64 0, .bool false, .bool false, .int .i64 0, .int .i64 64, .int .i64 1, .int .i64 fr, .int .i64 x7, .slice none 0 0, v], .int .i64 0]) ∧ OwnB w' W.heap.size v (icL kd cd rs (L.take EN)) ∧ Below W.heap.size W w') → ∃ v0_0 v0_1 : Value, e = .returned (.tuple #[.agg #[.int .i64 0, .int .i64 0, .bool false, .bool false, .int .i64 0, .int .i64 (coI true 64), .int .i64 (coI true 1), .int .i64 (coI true fr), .int .i64 (coI true x7), v0_0, v0_1], .int .i64 (if true = true then 0 else 1)]) ∧ OwnB w' W.heap.size v0_0 [] ∧ OwnB w' W.heap.size v0_1 (icL kd cd rs (L.take EN)) ∧ (∀ b, v0_0.ownBlock = some b → v0_1.ownBlock ≠ some b) ∧ Below W.heap.size W w' := by
      rintro e w' ⟨v, rfl, hO, hb⟩
      exact ⟨_, v, rfl, ⟨World.ownsRow_nil _ _ _ _, by simp⟩, hO, fun b h => by simp [Value.ownBlock] at h, hb⟩
    rcases hk with rfl | rfl
    · exact (specCom_good3 x0 x1 x2 x3 x4 x5 x6 x7 x8 a0 _ c0 a1 _ c1 fr 3 cd rs _ W hM h1 h3 h4 rfl L _ _ EN hlen l0 l1 hEN.1 hEN.2 cE cI cM).mono fin
    · exact (specCom_good11 x0 x1 x2 x3 x4 x5 x6 x7 x8 a0 _ c0 a1 _ c1 fr 11 cd rs _ W hM h1 h3 h4 rfl L _ _ EN hlen l0 l1 hEN.1 hEN.2 cE cI cM).mono fin
end Go.Proofs.YtakoagfeiolkjabDoor
