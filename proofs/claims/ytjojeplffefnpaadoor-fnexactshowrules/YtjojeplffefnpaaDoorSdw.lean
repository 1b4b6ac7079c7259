/-
Contracts of functions of this seat.
-/
import Derived.Test.YtjojeplffefnpaaDoorRows
import Derived.WalkKit
import Derived.ProofKit
import Derived.OpenShut
import Derived.Test.YtjojeplffefnpaaDoorOsw
import Derived.Test.YtjojeplffefnpaaDoorRvi
namespace Go.Proofs.YtjojeplffefnpaaDoor
open Go.ChangeShapes Go.WideShapes Go.ChangeAt Go.RowKit
set_option linter.unusedVariables false
set_option maxRecDepth 100000
theorem OwnW.lit' (w : World) (B : Nat) (ss : List ByteArray) (g : Nat) (hg : w.heap.size = g) (hB : B ≤ g) (hm : ss.length ≤ maxLen) : OwnW (w.alloc (.cells (ss.map Value.string).toArray 9)) B (.slice (some ⟨g, 0, none⟩) ss.length ss.length) ss := by
  subst hg
  exact OwnW.lit w B ss hB hm
set_option maxHeartbeats 4000000 in
theorem sideW_0a (a b l h : Int) (w : World) (X L H : ByteArray) (hX : X.size ≤ 100) (hL : L.size ≤ 100) (hH : H.size ≤ 100)
    (CA0 : ∀ W, Calls Tryd.prog 87 #[.int .i64 l, .int .i64 h] W fun e w' => e = .returned (.bool true) ∧ w' = W)
    : Calls Tryd.prog 62 #[.agg #[.int .i64 0, .int .i64 0], .int .i64 l, .int .i64 h] w fun e w' => ∃ u, e = .returned u ∧ OwnW w' (w.heap.size + 1) u [wAny] ∧ Below w.heap.size w w' := by
  have HB0 := hide (BoxV.start w #[.int .i64 0, .int .i64 0] 42)
  have k0 := HB0.out.cell 0 _ rfl
  have k1 := HB0.out.cell 1 _ rfl
  have CA := hide CA0
  clear CA0
  go_enter Tryd.func62, Tryd.ntmps62
  go_wp2_with fail
  refine (CA.out _).mono ?_
  rintro e uq ⟨rfl, huq⟩
  rw [huq]
  clear huq
  go_wp2_with fail
  go_ret
  exact ⟨_, rfl, OwnW.lit' (w.alloc (.cells #[.int .i64 0, .int .i64 0] 42)) (w.heap.size + 1) [wAny] (w.heap.size + 1) (World.size_alloc _ _) (by have := HB0.out.2.1; omega) (by simp [maxLen]), (HB0.out.next ((Below.refl _ _).alloc (Nat.le_refl _) _)).1⟩
set_option maxHeartbeats 4000000 in
theorem sideW_0e (a b l h : Int) (w : World) (X L H : ByteArray) (hX : X.size ≤ 100) (hL : L.size ≤ 100) (hH : H.size ≤ 100) (hlh : (l != h) = false)
    (CA0 : ∀ W, Calls Tryd.prog 87 #[.int .i64 l, .int .i64 h] W fun e w' => e = .returned (.bool false) ∧ w' = W)
    (CL0 : ∀ W, BoxV w W #[.int .i64 0, .int .i64 0] 42 → Calls Tryd.prog 89 #[.int .i64 l, .int .i64 10] W fun e w' => e = .returned (.string L) ∧ Below W.heap.size W w')
    : Calls Tryd.prog 62 #[.agg #[.int .i64 0, .int .i64 0], .int .i64 l, .int .i64 h] w fun e w' => ∃ u, e = .returned u ∧ OwnW w' (w.heap.size + 1) u [wAny, wPort, L] ∧ Below w.heap.size w w' := by
  have HB0 := hide (BoxV.start w #[.int .i64 0, .int .i64 0] 42)
  have k0 := HB0.out.cell 0 _ rfl
  have k1 := HB0.out.cell 1 _ rfl
  have CA := hide CA0
  clear CA0
  have CL := hide CL0
  clear CL0
  go_enter Tryd.func62, Tryd.ntmps62
  go_wp2_with fail
  refine (CA.out _).mono ?_
  rintro e uq ⟨rfl, huq⟩
  rw [huq]
  clear huq
  go_wp2_with fail
  refine (CL.out _ HB0.out).mono ?_
  rintro e u1 ⟨rfl, hbu⟩
  have HB1 := hide (HB0.out.next hbu)
  clear hbu k0 k1
  go_wp2_with fail
  go_ret
  exact ⟨_, rfl, OwnW.lit' u1 (w.heap.size + 1) [wAny, wPort, L] _ rfl (by have := HB1.out.2.1; omega) (by simp [maxLen]), (HB1.out.next ((Below.refl _ _).alloc (Nat.le_refl _) _)).1⟩
set_option maxHeartbeats 4000000 in
theorem sideW_0d (a b l h : Int) (w : World) (X L H : ByteArray) (hX : X.size ≤ 100) (hL : L.size ≤ 100) (hH : H.size ≤ 100) (hlh : (l != h) = true)
    (CA0 : ∀ W, Calls Tryd.prog 87 #[.int .i64 l, .int .i64 h] W fun e w' => e = .returned (.bool false) ∧ w' = W)
    (CL0 : ∀ W, BoxV w W #[.int .i64 0, .int .i64 0] 42 → Calls Tryd.prog 89 #[.int .i64 l, .int .i64 10] W fun e w' => e = .returned (.string L) ∧ Below W.heap.size W w')
    (CH0 : ∀ W, BoxV w W #[.int .i64 0, .int .i64 0] 42 → Calls Tryd.prog 89 #[.int .i64 h, .int .i64 10] W fun e w' => e = .returned (.string H) ∧ Below W.heap.size W w')
    : Calls Tryd.prog 62 #[.agg #[.int .i64 0, .int .i64 0], .int .i64 l, .int .i64 h] w fun e w' => ∃ u, e = .returned u ∧ OwnW w' (w.heap.size + 1) u [wAny, wPort, L ++ (wDash ++ H)] ∧ Below w.heap.size w w' := by
  have HB0 := hide (BoxV.start w #[.int .i64 0, .int .i64 0] 42)
  have k0 := HB0.out.cell 0 _ rfl
  have k1 := HB0.out.cell 1 _ rfl
  have CA := hide CA0
  clear CA0
  have CL := hide CL0
  clear CL0
  have CH := hide CH0
  clear CH0
  go_enter Tryd.func62, Tryd.ntmps62
  go_wp2_with fail
  refine (CA.out _).mono ?_
  rintro e uq ⟨rfl, huq⟩
  rw [huq]
  clear huq
  go_wp2_with fail
  refine (CL.out _ HB0.out).mono ?_
  rintro e u1 ⟨rfl, hbu⟩
  have HB1 := hide (HB0.out.next hbu)
  clear hbu k0 k1
  go_wp2_with fail
  refine (CH.out _ HB1.out).mono ?_
  rintro e u2 ⟨rfl, hbu⟩
  have HB2 := hide (HB1.out.next hbu)
  clear hbu 
  go_wp2_with fail
  go_ret
  exact ⟨_, rfl, OwnW.lit' u2 (w.heap.size + 1) [wAny, wPort, L ++ (wDash ++ H)] _ rfl (by have := HB2.out.2.1; omega) (by simp [maxLen]), (HB2.out.next ((Below.refl _ _).alloc (Nat.le_refl _) _)).1⟩
set_option maxHeartbeats 4000000 in
theorem sideW_1a (a b l h : Int) (w : World) (X L H : ByteArray) (hX : X.size ≤ 100) (hL : L.size ≤ 100) (hH : H.size ≤ 100) (hb : (b == 0) = false)
    (CP0 : ∀ W, BoxV w W #[.int .i64 a, .int .i64 b] 42 → Calls Tryd.prog 88 #[.agg #[.int .i64 a, .int .i64 b]] W fun e w' => e = .returned (.tuple #[.string X, .int .i64 0]) ∧ Below W.heap.size W w')
    (CA0 : ∀ W, Calls Tryd.prog 87 #[.int .i64 l, .int .i64 h] W fun e w' => e = .returned (.bool true) ∧ w' = W)
    : Calls Tryd.prog 62 #[.agg #[.int .i64 a, .int .i64 b], .int .i64 l, .int .i64 h] w fun e w' => ∃ u, e = .returned u ∧ OwnW w' (w.heap.size + 1) u [X] ∧ Below w.heap.size w w' := by
  have HB0 := hide (BoxV.start w #[.int .i64 a, .int .i64 b] 42)
  have k0 := HB0.out.cell 0 _ rfl
  have k1 := HB0.out.cell 1 _ rfl
  have CP := hide CP0
  clear CP0
  have CA := hide CA0
  clear CA0
  go_enter Tryd.func62, Tryd.ntmps62
  go_wp2_with fail
  refine (CP.out _ HB0.out).mono ?_
  rintro e u1 ⟨rfl, hbu⟩
  have HB1 := hide (HB0.out.next hbu)
  clear hbu k0 k1
  go_wp2_with fail
  refine (CA.out _).mono ?_
  rintro e uq ⟨rfl, huq⟩
  rw [huq]
  clear huq
  go_wp2_with fail
  go_ret
  exact ⟨_, rfl, OwnW.lit' u1 (w.heap.size + 1) [X] _ rfl (by have := HB1.out.2.1; omega) (by simp [maxLen]), (HB1.out.next ((Below.refl _ _).alloc (Nat.le_refl _) _)).1⟩
set_option maxHeartbeats 4000000 in
theorem sideW_1e (a b l h : Int) (w : World) (X L H : ByteArray) (hX : X.size ≤ 100) (hL : L.size ≤ 100) (hH : H.size ≤ 100) (hb : (b == 0) = false) (hlh : (l != h) = false)
    (CP0 : ∀ W, BoxV w W #[.int .i64 a, .int .i64 b] 42 → Calls Tryd.prog 88 #[.agg #[.int .i64 a, .int .i64 b]] W fun e w' => e = .returned (.tuple #[.string X, .int .i64 0]) ∧ Below W.heap.size W w')
    (CA0 : ∀ W, Calls Tryd.prog 87 #[.int .i64 l, .int .i64 h] W fun e w' => e = .returned (.bool false) ∧ w' = W)
    (CL0 : ∀ W, BoxV w W #[.int .i64 a, .int .i64 b] 42 → Calls Tryd.prog 89 #[.int .i64 l, .int .i64 10] W fun e w' => e = .returned (.string L) ∧ Below W.heap.size W w')
    : Calls Tryd.prog 62 #[.agg #[.int .i64 a, .int .i64 b], .int .i64 l, .int .i64 h] w fun e w' => ∃ u, e = .returned u ∧ OwnW w' (w.heap.size + 1) u [X, wPort, L] ∧ Below w.heap.size w w' := by
  have HB0 := hide (BoxV.start w #[.int .i64 a, .int .i64 b] 42)
  have k0 := HB0.out.cell 0 _ rfl
  have k1 := HB0.out.cell 1 _ rfl
  have CP := hide CP0
  clear CP0
  have CA := hide CA0
  clear CA0
  have CL := hide CL0
  clear CL0
  go_enter Tryd.func62, Tryd.ntmps62
  go_wp2_with fail
  refine (CP.out _ HB0.out).mono ?_
  rintro e u1 ⟨rfl, hbu⟩
  have HB1 := hide (HB0.out.next hbu)
  clear hbu k0 k1
  go_wp2_with fail
  refine (CA.out _).mono ?_
  rintro e uq ⟨rfl, huq⟩
  rw [huq]
  clear huq
  go_wp2_with fail
  refine (CL.out _ HB1.out).mono ?_
  rintro e u2 ⟨rfl, hbu⟩
  have HB2 := hide (HB1.out.next hbu)
  clear hbu 
  go_wp2_with fail
  go_ret
  exact ⟨_, rfl, OwnW.lit' u2 (w.heap.size + 1) [X, wPort, L] _ rfl (by have := HB2.out.2.1; omega) (by simp [maxLen]), (HB2.out.next ((Below.refl _ _).alloc (Nat.le_refl _) _)).1⟩
set_option maxHeartbeats 4000000 in
theorem sideW_1d (a b l h : Int) (w : World) (X L H : ByteArray) (hX : X.size ≤ 100) (hL : L.size ≤ 100) (hH : H.size ≤ 100) (hb : (b == 0) = false) (hlh : (l != h) = true)
    (CP0 : ∀ W, BoxV w W #[.int .i64 a, .int .i64 b] 42 → Calls Tryd.prog 88 #[.agg #[.int .i64 a, .int .i64 b]] W fun e w' => e = .returned (.tuple #[.string X, .int .i64 0]) ∧ Below W.heap.size W w')
    (CA0 : ∀ W, Calls Tryd.prog 87 #[.int .i64 l, .int .i64 h] W fun e w' => e = .returned (.bool false) ∧ w' = W)
    (CL0 : ∀ W, BoxV w W #[.int .i64 a, .int .i64 b] 42 → Calls Tryd.prog 89 #[.int .i64 l, .int .i64 10] W fun e w' => e = .returned (.string L) ∧ Below W.heap.size W w')
    (CH0 : ∀ W, BoxV w W #[.int .i64 a, .int .i64 b] 42 → Calls Tryd.prog 89 #[.int .i64 h, .int .i64 10] W fun e w' => e = .returned (.string H) ∧ Below W.heap.size W w')
    : Calls Tryd.prog 62 #[.agg #[.int .i64 a, .int .i64 b], .int .i64 l, .int .i64 h] w fun e w' => ∃ u, e = .returned u ∧ OwnW w' (w.heap.size + 1) u [X, wPort, L ++ (wDash ++ H)] ∧ Below w.heap.size w w' := by
  have HB0 := hide (BoxV.start w #[.int .i64 a, .int .i64 b] 42)
  have k0 := HB0.out.cell 0 _ rfl
  have k1 := HB0.out.cell 1 _ rfl
  have CP := hide CP0
  clear CP0
  have CA := hide CA0
  clear CA0
  have CL := hide CL0
  clear CL0
  have CH := hide CH0
  clear CH0
  go_enter Tryd.func62, Tryd.ntmps62
  go_wp2_with fail
  refine (CP.out _ HB0.out).mono ?_
  rintro e u1 ⟨rfl, hbu⟩
  have HB1 := hide (HB0.out.next hbu)
  clear hbu k0 k1
  go_wp2_with fail
  refine (CA.out _).mono ?_
  rintro e uq ⟨rfl, huq⟩
  rw [huq]
  clear huq
  go_wp2_with fail
  refine (CL.out _ HB1.out).mono ?_
  rintro e u2 ⟨rfl, hbu⟩
  have HB2 := hide (HB1.out.next hbu)
  clear hbu 
  go_wp2_with fail
  refine (CH.out _ HB2.out).mono ?_
  rintro e u3 ⟨rfl, hbu⟩
  have HB3 := hide (HB2.out.next hbu)
  clear hbu 
  go_wp2_with fail
  go_ret
  exact ⟨_, rfl, OwnW.lit' u3 (w.heap.size + 1) [X, wPort, L ++ (wDash ++ H)] _ rfl (by have := HB3.out.2.1; omega) (by simp [maxLen]), (HB3.out.next ((Below.refl _ _).alloc (Nat.le_refl _) _)).1⟩
theorem prefB_zero {a b : Int} (h : prefB a b = true) (hb : ¬ 0 < b) : a = 0 ∧ b = 0 := by
  obtain ⟨h1, h2, h3, h4⟩ := prefB_iff.1 h
  have e : b = 0 := by omega
  subst e
  have e2 : sz 0 = 4294967296 := rfl
  have := adrB_iff.1 h3
  rw [e2] at h4
  omega
/-- sideWords of the program. -/
theorem sideWords_walk (a b l h : Int) (w : World) (hp : prefB a b = true) (hq : portB l h = true) (ht : Lib.TabBelow Tryd.prog w.heap.size w "internal/strconv.uint64pow10" .u64 Lib.pow10Tab) :
    Calls Tryd.prog 62 #[.agg #[.int .i64 a, .int .i64 b], .int .i64 l, .int .i64 h] w fun e w' => ∃ u, e = .returned u ∧ OwnW w' (w.heap.size + 1) u (sideWs a b l h) ∧ Below w.heap.size w w' := by
  obtain ⟨l0, l1, h0, h1, _⟩ := portB_parts hq
  have TB : ∀ W (v : Array Value), BoxV w W v 42 → Lib.TabBelow Tryd.prog W.heap.size W "internal/strconv.uint64pow10" .u64 Lib.pow10Tab := fun W v hW => tab_later ht hW.1 (by have := hW.2.1; omega)
  have CA := fun W => anyPort_walk l h W
  have s1 : (showP a b).size ≤ 100 := by have := showP_size a b; omega
  have s2 : (decG l.toNat).size ≤ 100 := by have := decG_port l0 l1; omega
  have s3 : (decG h.toNat).size ≤ 100 := by have := decG_port h0 h1; omega
  unfold sideWs porW preW
  by_cases hb : 0 < b
  · rw [if_pos hb]
    have hbz : (b == 0) = false := beq_eq_false_iff_ne.2 (by omega)
    have CP := fun W (hW : BoxV w W #[.int .i64 a, .int .i64 b] 42) => showPI_yes a b W hp (TB W _ hW)
    have CL := fun W (hW : BoxV w W #[.int .i64 a, .int .i64 b] 42) => fmtInt_walk l l0 (by omega) W (TB W _ hW).here
    have CH := fun W (hW : BoxV w W #[.int .i64 a, .int .i64 b] 42) => fmtInt_walk h h0 (by omega) W (TB W _ hW).here
    by_cases hA : allP l h = true
    · rw [if_pos hA]
      rw [hA] at CA
      exact sideW_1a a b l h w _ ⟨#[]⟩ ⟨#[]⟩ s1 (by decide) (by decide) hbz CP CA
    · rw [if_neg hA]
      rw [show allP l h = false by simpa using hA] at CA
      by_cases hl : l = h
      · rw [if_pos hl]
        exact sideW_1e a b l h w _ _ ⟨#[]⟩ s1 s2 (by decide) hbz (by simp [hl]) CP CA CL
      · rw [if_neg hl, ByteArray.append_assoc]
        exact sideW_1d a b l h w _ _ _ s1 s2 s3 hbz (by simpa using hl) CP CA CL CH
  · obtain ⟨rfl, rfl⟩ := prefB_zero hp hb
    rw [if_neg hb]
    have CL := fun W (hW : BoxV w W #[.int .i64 0, .int .i64 0] 42) => fmtInt_walk l l0 (by omega) W (TB W _ hW).here
    have CH := fun W (hW : BoxV w W #[.int .i64 0, .int .i64 0] 42) => fmtInt_walk h h0 (by omega) W (TB W _ hW).here
    by_cases hA : allP l h = true
    · rw [if_pos hA]
      rw [hA] at CA
      exact sideW_0a 0 0 l h w ⟨#[]⟩ ⟨#[]⟩ ⟨#[]⟩ (by decide) (by decide) (by decide) CA
    · rw [if_neg hA]
      rw [show allP l h = false by simpa using hA] at CA
      by_cases hl : l = h
      · rw [if_pos hl]
        exact sideW_0e 0 0 l h w ⟨#[]⟩ _ ⟨#[]⟩ (by decide) s2 (by decide) (by simp [hl]) CA CL
      · rw [if_neg hl, ByteArray.append_assoc]
        exact sideW_0d 0 0 l h w ⟨#[]⟩ _ _ (by decide) s2 s3 (by simpa using hl) CA CL CH
end Go.Proofs.YtjojeplffefnpaaDoor
