/-
Contracts of functions of this seat.
-/
import Derived.Test.YtednldijgijheaaRows
import Derived.WalkKit
import Derived.ProofKit
import Derived.OpenShut
import Derived.Test.YtednldijgijheaaRws
import Derived.Lib.SliceRun
namespace Go.Proofs.Ytednldijgijheaa
open Go.ChangeShapes Go.WideShapes Go.ChangeAt Go.RowKit
set_option linter.unusedVariables false
set_option maxRecDepth 100000
theorem news_any' {w : World} {ad : Addr} {zs : List Int} (h : Arr w (some ad) zs) : ∀ j u, (bval zs)[j]? = some u → w.cell? (ad.add j) = some u := by
  intro j u hu
  have hj : j < zs.length := by
    have := (List.getElem?_eq_some_iff.1 hu).1
    simpa [bval] using this
  obtain ⟨b', off', e, _, hc⟩ := h.2 j hj
  cases e
  rw [bval_get zs j hj] at hu
  rw [Addr.add_lit, hc]; exact hu
set_option maxHeartbeats 1000000 in
/-- bytes.Clone. -/
theorem bclone_walk (a : Option Addr) (n cap : Nat) (zs : List Int) (w : World) (hn : zs.length = n) (ha : Arr w a zs) (hm : n ≤ 2097152) (hc : n ≤ cap) :
    Calls Try.prog 32 #[.slice a n cap] w fun e w' => ∃ v : Value, e = .returned v ∧ OwnB w' w.heap.size v zs ∧ Below w.heap.size w w' := by
  have qT : ∀ (w : World) (a : Option Addr) (n c n' c' : Nat), (binOp .eql 22 (.slice a n c) (.slice none n' c')).run Try.prog w = .ok (.bool a.isNone) w := fun w a n c n' c' => Lib.run_eql_slice_nil w _ _ a n c n' c' Try.underlying22
  obtain ⟨i, hi, hz0, hz1, hz2⟩ := info_parts Try.infoB
  have HN := hide hn
  have HA := hide ha
  clear hn ha
  cases a with
  | none =>
    have hz : zs = [] := by
      cases zs with
      | nil => rfl
      | cons z zs => obtain ⟨_, _, e, _⟩ := HA.out.2 0 (by simp); cases e
    subst hz
    go_enter Try.func32, Try.ntmps32
    go_wp2_with fail
    go_ret
    exact ⟨_, rfl, ⟨World.ownsRow_nil _ _ _ _, by simp⟩, Below.refl _ _⟩
  | some ad =>
    have hst : OwnB (w.alloc (.cells #[] 5)) w.heap.size (.slice (some ⟨w.heap.size, 0, none⟩) 0 0) [] :=
      ⟨World.ownsRow_lit (base := w.heap.size) (e := 5) (size := 1) w #[] 0 (Nat.le_refl _) (by decide) rfl, by simp⟩
    have HST := hide hst
    have hb0 := (Below.refl w.heap.size w).alloc (Nat.le_refl _) (.cells #[] 5)
    have HA1 := hide (HA.out.below hb0 (Nat.le_refl _))
    have hs0 := World.size_alloc w (.cells #[] 5)
    clear hst
    go_enter Try.func32, Try.ntmps32
    go_wp2_with (first | (at_builtin; refine wpList_append_own _ rfl _ _ 22 rfl w.heap.size 5 i _ 1 1 Try.underlying22 hi hz0 hz1 hz2 rfl (by decide) (.slice (some ⟨w.heap.size, 0, none⟩) 0 0) 0 [] rfl HST.out.1 ad n cap (bval zs) rfl (by unfold bval; rw [List.length_map, HN.out]; omega) (news_any' HA1.out) (oneCells _) (by unfold maxLen; omega) (by omega) (by omega) ?_))
    intro v' w3 hown' hgrow hnil
    have hb3 : Below w.heap.size w w3 := hb0.grown hgrow (by omega) (fun k hk => (HST.out.1.lt k hk).1)
    have HO3 := hide (OwnB.app (xs := []) (ys := zs) hown' (by rw [HN.out]; simp) (by simp) HA.out.1)
    clear hown' hnil hgrow
    go_wp2_with fail
    go_ret
    exact ⟨_, rfl, HO3.out, hb3⟩

set_option maxHeartbeats 4000000 in
theorem copyPacket_walk (x0 x1 : Int) (x2 x3 : Bool) (x4 x5 x6 x7 x8 : Int) (a0 : Option Addr) (n0 c0 : Nat) (a1 : Option Addr) (n1 c1 : Nat) (z0 z1 : List Int) (w : World) (h0n : z0.length = n0) (h0a : Arr w a0 z0) (m0 : n0 ≤ 1048576) (q0 : n0 ≤ c0) (h1n : z1.length = n1) (h1a : Arr w a1 z1) (m1 : n1 ≤ 1048576) (q1 : n1 ≤ c1) :
    Calls Try.prog 21 #[.agg #[.int .i64 x0, .int .i64 x1, .bool x2, .bool x3, .int .i64 x4, .int .i64 x5, .int .i64 x6, .int .i64 x7, .int .i64 x8, .slice a0 n0 c0, .slice a1 n1 c1]] w fun e w' => ∃ v0 v1 : Value, e = .returned (.agg #[.int .i64 x0, .int .i64 x1, .bool x2, .bool x3, .int .i64 x4, .int .i64 x5, .int .i64 x6, .int .i64 x7, .int .i64 x8, v0, v1]) ∧ OwnB w' (w.heap.size + 2) v0 z0 ∧ OwnB w' (w.heap.size + 2) v1 z1 ∧ (∀ b, v0.ownBlock = some b → v1.ownBlock ≠ some b) ∧ Below w.heap.size w w' := by
  have HI := hide (PkR.start w x0 x1 x2 x3 x4 x5 x6 x7 x8 (.slice a0 n0 c0) (.slice a1 n1 c1))
  have C0 := hide (fun W (hb : Below w.heap.size w W) => bclone_walk a0 n0 c0 z0 W h0n (h0a.below hb (Nat.le_refl _)) (by omega) q0)
  have C1 := hide (fun W (hb : Below w.heap.size w W) => bclone_walk a1 n1 c1 z1 W h1n (h1a.below hb (Nat.le_refl _)) (by omega) q1)
  clear h0n h0a h1n h1a
  obtain ⟨p0, p1, p2, p3, p4, p5, p6, p7, p8, p9, p10, pf⟩ := cellsQ HI.out.2.1
  go_enter Try.func21, Try.ntmps21
  go_wp2_with fail
  generalize (w.alloc (pkObj x0 x1 x2 x3 x4 x5 x6 x7 x8 (.slice a0 n0 c0) (.slice a1 n1 c1))).alloc (pkObj 0 0 false false 0 0 0 0 0 (.slice none 0 0) (.slice none 0 0)) = W at *
  refine (C0.out W HI.out.1).mono ?_
  rintro e w1 ⟨v0, rfl, hO0, hb1⟩
  have HI1 := hide (HI.out.next hb1)
  have HO0 := hide (hO0.mono HI.out.2.2.2)
  have hz0 := hO0.1.lt
  obtain ⟨b0, d0, rfl, _⟩ := own_slice HO0.out
  clear p0 p1 p2 p3 p4 p5 p6 p7 p8 p9 p10 pf hO0 hb1 HI
  obtain ⟨p0, p1, p2, p3, p4, p5, p6, p7, p8, p9, p10, pf⟩ := cellsQ HI1.out.2.1
  have HI2 := hide (HI1.out.set9 (.slice b0 z0.length d0))
  have HO1 := hide (HO0.out.setBelow (a := ⟨w.heap.size, 9, none⟩) (by show w.heap.size < w.heap.size + 2; omega) (.slice b0 z0.length d0))
  clear HI1 HO0
  go_wp2_with fail
  generalize hV : w1.setCell ⟨w.heap.size, 9, none⟩ (.slice b0 z0.length d0) = V at *
  clear hV p0 p1 p2 p3 p4 p5 p6 p7 p8 p9 p10 pf
  refine (C1.out V HI2.out.1).mono ?_
  rintro e w2 ⟨v1, rfl, hO2, hb2⟩
  have HAP := hide (apart_own HO1.out hO2 (Nat.le_refl _))
  have HI3 := hide (HI2.out.next hb2)
  have HO3 := hide (HO1.out.next hb2)
  have HO4 := hide (hO2.mono HI2.out.2.2.2)
  obtain ⟨b1, d1, rfl, _⟩ := own_slice HO4.out
  clear hO2 hb2 HI2 HO1 hz0
  obtain ⟨p0, p1, p2, p3, p4, p5, p6, p7, p8, p9, p10, pf⟩ := cellsQ HI3.out.2.1
  obtain ⟨d0', d1', d2, d3, d4, d5, d6, d7, d8, d9, d10, df⟩ := cellsQ HI3.out.2.2.1
  have HI4 := hide (HI3.out.set10 (.slice b1 z1.length d1))
  have HO5 := hide (HO3.out.setBelow (a := ⟨w.heap.size, 10, none⟩) (by show w.heap.size < w.heap.size + 2; omega) (.slice b1 z1.length d1))
  have HO6 := hide (HO4.out.setBelow (a := ⟨w.heap.size, 10, none⟩) (by show w.heap.size < w.heap.size + 2; omega) (.slice b1 z1.length d1))
  clear HI3 HO3 HO4
  go_wp2_with fail
  exact bodyPost_ret (v := .agg #[.int .i64 x0, .int .i64 x1, .bool x2, .bool x3, .int .i64 x4, .int .i64 x5, .int .i64 x6, .int .i64 x7, .int .i64 x8, .slice b0 z0.length d0, .slice b1 z1.length d1]) (by simp [results, Try.results21, go_sem, d0', d1', d2, d3, d4, d5, d6, d7, d8, d9, d10]) rfl ⟨_, _, rfl, ownb_11n HO5.out (by omega), ownb_11n HO6.out (by omega), HAP.out, below_11n HI4.out.1 (by omega)⟩
end Go.Proofs.Ytednldijgijheaa
