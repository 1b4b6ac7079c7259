/-
Contracts of functions of this seat.
-/
import Derived.Test.YtcnfnimgpiaamaaDoorRows
import Derived.WalkKit
import Derived.ProofKit
import Derived.OpenShut
import Derived.Test.YtcnfnimgpiaamaaDoorGss
namespace Go.Proofs.YtcnfnimgpiaamaaDoor
open Go.ChangeShapes Go.WideShapes Go.ChangeAt Go.RowKit
set_option linter.unusedVariables false
set_option maxRecDepth 100000
theorem indexI_walk (a : Option Addr) (n cap : Nat) (L : List Int) (v : Int) (w : World) (hn : L.length = n) (ha : ArrI w a L) (hm : n ≤ 1024) :
    Calls Tryd.prog 127 #[.slice a n cap, .int .i64 v] w fun e w' => ∃ r : Int, e = .returned (.int .i64 r) ∧ w' = w ∧ ((v ∈ L ∧ 0 ≤ r) ∨ (v ∉ L ∧ r = -1)) := by
  have HN := hide hn
  have HA := hide ha
  clear hn ha
  go_enter Tryd.func127, Tryd.ntmps127
  go_wp2_with fail
  go_loop [8] (fun t => ∃ i : Nat, i ≤ n ∧ t = .int .i64 i ∧ Hid (∀ j, j < i → L.getD j 0 ≠ v)) (fun t => n - (intOf t).toNat)
  case atStart => exact ⟨0, Nat.zero_le _, rfl, hide (fun j hj => absurd hj (by omega))⟩
  case round =>
    obtain ⟨i, hi, rfl, HP⟩ := hrel
    by_cases hlt : i < n
    · obtain ⟨b, off, rfl, hbs, hc⟩ := HA.out i (by rw [HN.out]; exact hlt)
      have hin : L.getD i 0 ∈ L := by
        rw [List.getD_eq_getElem?_getD, List.getElem?_eq_getElem (by rw [HN.out]; exact hlt)]
        exact List.getElem_mem _
      have HI := hide hin
      clear hin
      by_cases hv : v = L.getD i 0
      · have HV : Hid (v ∈ L) := hide (by rw [hv]; exact HI.out)
        rw [← hv] at hc
        clear hv HI
        go_wp2_with fail
        go_ret
        exact ⟨_, rfl, rfl, .inl ⟨HV.out, by omega⟩⟩
      · have HP2 : Hid (∀ j, j < i + 1 → L.getD j 0 ≠ v) := hide (fun j hj => by
          by_cases e : j = i
          · subst e; exact fun e => hv e.symm
          · exact HP.out j (by omega))
        generalize L.getD i 0 = x at hc hv
        go_wp2_with fail
        exact ⟨⟨i + 1, by omega, by go_num, HP2⟩, by simp [intOf]; omega⟩
    · have HV : Hid (v ∉ L) := hide (fun hm => by
        obtain ⟨j, hj, e⟩ := List.getElem_of_mem hm
        have hjn : j < n := by rw [← HN.out]; exact hj
        refine HP.out j (by omega) ?_
        rw [List.getD_eq_getElem?_getD, List.getElem?_eq_getElem hj]
        exact e)
      go_wp2_with fail
      go_ret
      exact ⟨_, rfl, rfl, .inr ⟨HV.out, rfl⟩⟩
theorem containsI_walk (a : Option Addr) (n cap : Nat) (L : List Int) (v : Int) (w : World) (hn : L.length = n) (ha : ArrI w a L) (hm : n ≤ 1024) :
    Calls Tryd.prog 113 #[.slice a n cap, .int .i64 v] w fun e w' => e = .returned (.bool (decide (v ∈ L))) ∧ w' = w := by
  have CI := hide (indexI_walk a n cap L v w hn ha hm)
  clear hn ha
  by_cases hv : v ∈ L
  · have HV := hide hv
    rw [decide_eq_true hv]
    clear hv
    go_enter Tryd.func113, Tryd.ntmps113
    go_wp2_with fail
    refine CI.out.mono ?_
    rintro e w' ⟨r, rfl, rfl, h⟩
    have h0 : 0 ≤ r := by rcases h with h | h; exact h.2; exact absurd HV.out h.1
    clear h
    go_wp2_with fail
    go_ret
    exact ⟨rfl, rfl⟩
  · have HV := hide hv
    rw [decide_eq_false hv]
    clear hv
    go_enter Tryd.func113, Tryd.ntmps113
    go_wp2_with fail
    refine CI.out.mono ?_
    rintro e w' ⟨r, rfl, rfl, h⟩
    have h0 : r = -1 := by rcases h with h | h; exact absurd h.1 HV.out; exact h.2
    subst h0
    clear h
    go_wp2_with fail
    go_ret
    exact ⟨rfl, rfl⟩
end Go.Proofs.YtcnfnimgpiaamaaDoor
