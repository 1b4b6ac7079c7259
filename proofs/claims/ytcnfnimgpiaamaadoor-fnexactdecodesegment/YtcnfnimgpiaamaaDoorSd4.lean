/-
Contracts of functions of this seat.
-/
import Derived.Test.YtcnfnimgpiaamaaDoorRows
import Derived.WalkKit
import Derived.ProofKit
import Derived.OpenShut
import Derived.Test.YtcnfnimgpiaamaaDoorSd3
namespace Go.Proofs.YtcnfnimgpiaamaaDoor
open Go.ChangeShapes Go.WideShapes Go.ChangeAt Go.RowKit
set_option linter.unusedVariables false
set_option maxRecDepth 100000
theorem rdO_end {b : List Int} {s : OSt} (h : b.length = 0 ∨ b.getD 0 0 = 0) : rdO b s = some s := by
  rw [rdO, if_pos h]
theorem rdO_pad {b : List Int} {s : OSt} (h0 : 0 < b.length) (h1 : b.getD 0 0 = 1) : rdO b s = rdO (b.drop 1) s := by
  rw [rdO, if_neg (by omega), dif_pos ⟨h1, h0⟩]
theorem rdO_bad {b : List Int} {s : OSt} (h0 : 0 < b.length) (h1 : b.getD 0 0 ≠ 0) (h2 : b.getD 0 0 ≠ 1) (h : b.length < 2 ∨ b.getD 1 0 < 2 ∨ (b.length : Int) < b.getD 1 0) : rdO b s = none := by
  rw [rdO, if_neg (by omega), dif_neg (fun e => h2 e.1), dif_pos h]
theorem rdO_none {b : List Int} {s : OSt} (h0 : 0 < b.length) (h1 : b.getD 0 0 ≠ 0) (h2 : b.getD 0 0 ≠ 1) (h : ¬ (b.length < 2 ∨ b.getD 1 0 < 2 ∨ (b.length : Int) < b.getD 1 0)) (ho : opt1 (b.getD 0 0) ((b.take (b.getD 1 0).toNat).drop 2) s = none) : rdO b s = none := by
  rw [rdO, if_neg (by omega), dif_neg (fun e => h2 e.1), dif_neg h, ho]
theorem rdO_some {b : List Int} {s s' : OSt} (h0 : 0 < b.length) (h1 : b.getD 0 0 ≠ 0) (h2 : b.getD 0 0 ≠ 1) (h : ¬ (b.length < 2 ∨ b.getD 1 0 < 2 ∨ (b.length : Int) < b.getD 1 0)) (ho : opt1 (b.getD 0 0) ((b.take (b.getD 1 0).toNat).drop 2) s = some s') : rdO b s = rdO (b.drop (b.getD 1 0).toNat) s' := by
  rw [rdO, if_neg (by omega), dif_neg (fun e => h2 e.1), dif_neg h, ho]
/-- A row of numbers lies in no block of another type. -/
theorem OwnI.ne_hold {w : World} {B e K n b T : Nat} {v : Value} {zs : List Int} {vs : Array Value} (h : OwnI w B e K v n zs) (hb : HoldV w b vs T) (hT : T ≠ e) : ∀ k, v.ownBlock = some k → k ≠ b := by
  intro k hk he
  subst he
  rcases h.2 with ⟨hn, _⟩ | ⟨r, off, cap, cur, hv, hr, hc, rest⟩
  · rw [hn] at hk; cases hk
  · rw [hv] at hk
    have : r = k := by simpa [Value.ownBlock] using hk
    subst this
    rw [HoldV] at hb
    rw [hb] at hc
    simp only [Option.some.injEq, Obj.cells.injEq] at hc
    exact hT hc.2.1
theorem OwnI.gr {w w' : World} {B e K n b T : Nat} {v : Value} {zs : List Int} {vs : Array Value} (h : OwnI w B e K v n zs) (hb : HoldV w b vs T) (hT : T ≠ e) (hg : w.grownBy w' (some b)) : OwnI w' B e K v n zs := h.kept hg (by
  cases hv : v.ownBlock with
  | none => exact .inl rfl
  | some k => exact .inr (fun e => OwnI.ne_hold h hb hT k hv (Option.some.inj e)))
theorem sl_anys (b off n cap l : Nat) (hl : l ≤ n) (hn : n ≤ cap) : ∃ a' : Option Addr, (∀ w : World, (Instr.slice 23 (.slice (some ⟨b, off, none⟩) n cap) (some (.int .i64 (l : Int))) none none).run Tryd.prog w = .ok (.slice a' (n - l) (cap - l)) w) ∧ (l < cap → a' = some ⟨b, off + l, none⟩) := by
  by_cases h : l < cap
  · exact ⟨_, fun w => sl_from b off n cap l hl h w, fun _ => rfl⟩
  · have hs : ∀ w : World, (sizeOf (Tryd.prog.elem 23)).run Tryd.prog w = .ok 1 w := fun w => Tryd.sizeOf5 w
    have he := fun w : World => run_slice_l (P := Tryd.prog) (w := w) 23 (some ⟨b, off, none⟩) n cap Tryd.underlying23 .i64 (l : Int) (by omega) (by omega)
    have hlc : l = cap := by omega
    refine ⟨some ⟨b, off, none⟩, fun w => ?_, fun h2 => absurd h2 h⟩
    rw [he w, hs w]
    simp [sliced, Result.andThen, hlc]
theorem arr_anys {w : World} {b off cap l : Nat} {zs : List Int} {a' : Option Addr} (ha : Arr w (some ⟨b, off, none⟩) zs) (he : l < cap → a' = some ⟨b, off + l, none⟩) (hh : zs.length ≤ cap) : Arr w a' (zs.drop l) := by
  by_cases h : l < cap
  · rw [he h]; exact ha.drop l
  · have e : zs.drop l = [] := List.drop_eq_nil_of_le (by omega)
    rw [e]
    exact ⟨by simp, fun j hj => by simp at hj⟩
end Go.Proofs.YtcnfnimgpiaamaaDoor
