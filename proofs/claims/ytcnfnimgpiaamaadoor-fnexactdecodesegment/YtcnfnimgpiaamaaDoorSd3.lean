/-
Contracts of functions of this seat.
-/
import Derived.Test.YtcnfnimgpiaamaaDoorRows
import Derived.WalkKit
import Derived.ProofKit
import Derived.OpenShut
import Derived.Test.YtcnfnimgpiaamaaDoorSd2
namespace Go.Proofs.YtcnfnimgpiaamaaDoor
open Go.ChangeShapes Go.WideShapes Go.ChangeAt Go.RowKit
set_option linter.unusedVariables false
set_option maxRecDepth 100000
/-- l11Option of the model is opt1. -/
theorem l11Option_walk (x0 x1 x2 x3 x4 x5 : Int) (s : OSt) (r B : Nat) (a10 : Option Addr) (n10 c10 : Nat) (a11 : Option Addr) (n11 c11 : Nat) (a : Option Addr) (n cap : Nat) (zs : List Int) (w : World) (hO : OwnI w B 53 2 (.slice a10 n10 c10) r s.L) (hB : B ≤ w.heap.size) (hn : zs.length = n) (ha : Arr w a zs) (hcap : n ≤ cap) (h2 : 2 ≤ n) (hm : n ≤ 255) :
    Calls Tryd.prog 84 #[.agg #[.int .i64 x0, .int .i64 x1, .int .i64 x2, .int .i64 x3, .int .i64 x4, .int .i64 x5, .int .i64 s.m, .bool s.hs, .int .i64 s.sc, .bool s.so, .slice a10 n10 c10, .slice a11 n11 c11], .slice a n cap] w fun e w' => Below w.heap.size w w' ∧ ((opt1 (zs.getD 0 0) (zs.drop 2) s = none ∧ e = .returned (.tuple #[.agg #[.int .i64 x0, .int .i64 x1, .int .i64 x2, .int .i64 x3, .int .i64 x4, .int .i64 x5, .int .i64 s.m, .bool s.hs, .int .i64 s.sc, .bool s.so, .slice a10 n10 c10, .slice a11 n11 c11], .bool false])) ∨
      ∃ (s' : OSt) (a' : Option Addr) (n' c' r' : Nat), opt1 (zs.getD 0 0) (zs.drop 2) s = some s' ∧ e = .returned (.tuple #[.agg #[.int .i64 x0, .int .i64 x1, .int .i64 x2, .int .i64 x3, .int .i64 x4, .int .i64 x5, .int .i64 s'.m, .bool s'.hs, .int .i64 s'.sc, .bool s'.so, .slice a' n' c', .slice a11 n11 c11], .bool true]) ∧ OwnI w' B 53 2 (.slice a' n' c') r' s'.L) := by
  have hl : (zs.drop 2).length = n - 2 := by rw [List.length_drop, hn]
  by_cases k2 : zs.getD 0 0 = 2
  · by_cases hb : n = 4
    · refine (l11Opt_ok2 x0 x1 x2 x3 x4 x5 s.m s.hs s.sc s.so a10 n10 c10 a11 n11 c11 a n cap zs w hn ha hcap h2 hm k2 hb _ rfl).mono ?_
      rintro e w' ⟨rfl, hb'⟩
      exact ⟨hb', .inr ⟨{ s with m := tnum (zs.drop 2) }, a10, n10, c10, r, by unfold opt1; rw [if_pos k2, if_pos (by omega)], rfl, hO.next hb'⟩⟩
    · refine (l11Opt_bad2 x0 x1 x2 x3 x4 x5 s.m s.hs s.sc s.so a10 n10 c10 a11 n11 c11 a n cap zs w hn ha hcap h2 hm k2 hb).mono ?_
      rintro e w' ⟨rfl, hb'⟩
      exact ⟨hb', .inl ⟨by unfold opt1; rw [if_pos k2, if_neg (by omega)], rfl⟩⟩
  by_cases k3 : zs.getD 0 0 = 3
  · by_cases hb : n = 3
    · have e2 : (zs.drop 2).getD 0 0 = zs.getD 2 0 := by simp [List.getD_eq_getElem?_getD]
      by_cases hc : 14 < zs.getD 2 0
      · refine (l11Opt_ok3a x0 x1 x2 x3 x4 x5 s.m s.hs s.sc s.so a10 n10 c10 a11 n11 c11 a n cap zs w hn ha hcap h2 hm k3 hb _ rfl hc).mono ?_
        rintro e w' ⟨rfl, hb'⟩
        exact ⟨hb', .inr ⟨{ s with hs := true, sc := 14 }, a10, n10, c10, r, by unfold opt1; rw [if_neg k2, if_pos k3, if_pos (by omega), e2, if_pos hc], rfl, hO.next hb'⟩⟩
      · refine (l11Opt_ok3b x0 x1 x2 x3 x4 x5 s.m s.hs s.sc s.so a10 n10 c10 a11 n11 c11 a n cap zs w hn ha hcap h2 hm k3 hb _ rfl hc).mono ?_
        rintro e w' ⟨rfl, hb'⟩
        exact ⟨hb', .inr ⟨{ s with hs := true, sc := zs.getD 2 0 }, a10, n10, c10, r, by unfold opt1; rw [if_neg k2, if_pos k3, if_pos (by omega), e2, if_neg hc], rfl, hO.next hb'⟩⟩
    · refine (l11Opt_bad3 x0 x1 x2 x3 x4 x5 s.m s.hs s.sc s.so a10 n10 c10 a11 n11 c11 a n cap zs w hn ha hcap h2 hm k3 hb).mono ?_
      rintro e w' ⟨rfl, hb'⟩
      exact ⟨hb', .inl ⟨by unfold opt1; rw [if_neg k2, if_pos k3, if_neg (by omega)], rfl⟩⟩
  by_cases k4 : zs.getD 0 0 = 4
  · by_cases hb : n = 2
    · refine (l11Opt_ok4 x0 x1 x2 x3 x4 x5 s.m s.hs s.sc s.so a10 n10 c10 a11 n11 c11 a n cap zs w hn ha hcap h2 hm k4 hb).mono ?_
      rintro e w' ⟨rfl, hb'⟩
      exact ⟨hb', .inr ⟨{ s with so := true }, a10, n10, c10, r, by unfold opt1; rw [if_neg k2, if_neg k3, if_pos k4, if_pos (by omega)], rfl, hO.next hb'⟩⟩
    · refine (l11Opt_bad4 x0 x1 x2 x3 x4 x5 s.m s.hs s.sc s.so a10 n10 c10 a11 n11 c11 a n cap zs w hn ha hcap h2 hm k4 hb).mono ?_
      rintro e w' ⟨rfl, hb'⟩
      exact ⟨hb', .inl ⟨by unfold opt1; rw [if_neg k2, if_neg k3, if_pos k4, if_neg (by omega)], rfl⟩⟩
  by_cases k5 : zs.getD 0 0 = 5
  · have bad : ¬ ((zs.drop 2).length = 8 ∨ (zs.drop 2).length = 16 ∨ (zs.drop 2).length = 24 ∨ (zs.drop 2).length = 32) → opt1 (zs.getD 0 0) (zs.drop 2) s = none := fun h => by unfold opt1; rw [if_neg k2, if_neg k3, if_neg k4, if_pos k5, if_neg h]
    by_cases h10 : n < 10
    · refine (l11Opt_bad5a x0 x1 x2 x3 x4 x5 s.m s.hs s.sc s.so a10 n10 c10 a11 n11 c11 a n cap zs w hn ha hcap h2 hm k5 h10).mono ?_
      rintro e w' ⟨rfl, hb'⟩
      exact ⟨hb', .inl ⟨bad (by omega), rfl⟩⟩
    by_cases h34 : 34 < n
    · refine (l11Opt_bad5b x0 x1 x2 x3 x4 x5 s.m s.hs s.sc s.so a10 n10 c10 a11 n11 c11 a n cap zs w hn ha hcap h2 hm k5 h34).mono ?_
      rintro e w' ⟨rfl, hb'⟩
      exact ⟨hb', .inl ⟨bad (by omega), rfl⟩⟩
    by_cases h8 : n % 8 = 2
    · refine (l11Opt_ok5 x0 x1 x2 x3 x4 x5 s.m s.hs s.sc s.so a10 n10 c10 a11 n11 c11 a n cap zs w hn ha hcap k5 ((n - 2) / 8) (by omega) (by omega) (by omega)).mono ?_
      rintro e w' ⟨v, rfl, ho, hb'⟩
      obtain ⟨a', c', rfl, _, _⟩ := OwnI.arr ho
      refine ⟨hb', .inr ⟨{ s with L := skL (zs.drop 2) (min 3 ((zs.drop 2).length / 8)) }, a', min 3 ((n - 2) / 8), c', min 3 ((n - 2) / 8), ?_, rfl, ?_⟩⟩
      · unfold opt1; rw [if_neg k2, if_neg k3, if_neg k4, if_pos k5, if_pos (by omega)]
      · rw [hl]; exact ho.mono hB
    · refine (l11Opt_bad5c x0 x1 x2 x3 x4 x5 s.m s.hs s.sc s.so a10 n10 c10 a11 n11 c11 a n cap zs w hn ha hcap h2 hm k5 (by omega) (by omega) h8).mono ?_
      rintro e w' ⟨rfl, hb'⟩
      exact ⟨hb', .inl ⟨bad (by omega), rfl⟩⟩
  · refine (l11Opt_other x0 x1 x2 x3 x4 x5 s.m s.hs s.sc s.so a10 n10 c10 a11 n11 c11 a n cap zs w hn ha hcap h2 hm k2 k3 k4 k5).mono ?_
    rintro e w' ⟨rfl, hb'⟩
    exact ⟨hb', .inr ⟨s, a10, n10, c10, r, by unfold opt1; rw [if_neg k2, if_neg k3, if_neg k4, if_neg k5], rfl, hO.next hb'⟩⟩
/-- All options. -/
def rdO (b : List Int) (s : OSt) : Option OSt :=
  if b.length = 0 ∨ b.getD 0 0 = 0 then some s
  else if h1 : b.getD 0 0 = 1 ∧ 0 < b.length then rdO (b.drop 1) s
  else if h : b.length < 2 ∨ b.getD 1 0 < 2 ∨ (b.length : Int) < b.getD 1 0 then none
  else match opt1 (b.getD 0 0) ((b.take (b.getD 1 0).toNat).drop 2) s with
    | none => none
    | some s' => rdO (b.drop (b.getD 1 0).toNat) s'
termination_by b.length
decreasing_by
  · simp only [List.length_drop]; omega
  · simp only [List.length_drop]; omega
end Go.Proofs.YtcnfnimgpiaamaaDoor
