/-
Contracts of functions of this seat.
-/
import Derived.Test.YtgegnkboibgbgaaRows
import Derived.WalkKit
import Derived.ProofKit
import Derived.OpenShut
import Derived.Test.YtgegnkboibgbgaaTkx
import Derived.Test.YtgegnkboibgbgaaRvx
namespace Go.Proofs.Ytgegnkboibgbgaa
open Go.ChangeShapes Go.WideShapes Go.ChangeAt Go.RowKit
set_option linter.unusedVariables false
set_option maxRecDepth 100000
theorem ruP_short {ws : List (List UInt8)} (h : ws.length < 7) : ruP ws = none := by
  match ws, h with
  | [], _ => rfl
  | [_], _ => rfl
  | [_, _], _ => rfl
  | a :: d :: p :: r, h =>
    simp only [ruP]
    rw [if_pos (by simp at h; omega)]
/-- l09Rule under way: its answer's room, its rule. -/
def LU (w W : World) (rv : Array Value) : Prop := Below w.heap.size w W ∧ HoldV W w.heap.size #[.int .i64 0, .int .i64 0, .int .i64 0, .int .i64 0, .int .i64 0, .int .i64 0, .int .i64 0, .int .i64 0, .int .i64 0, .int .i64 0, .int .i64 0, .int .i64 0] 45 ∧ HoldV W (w.heap.size + 1) rv 45
theorem LU.next {w W W' : World} {rv : Array Value} (h : LU w W rv) (hb : Below W.heap.size W W') : LU w W' rv := ⟨h.1.trans (hb.mono h.1.size), h.2.1.next hb, h.2.2.next hb⟩
theorem LU.set {w W : World} {rv : Array Value} (h : LU w W rv) (i : Nat) (y : Value) : LU w (W.setCell ⟨w.heap.size + 1, i, none⟩ y) (rv.setIfInBounds i y) := by
  have hb : Below (w.heap.size + 1) W (W.setCell ⟨w.heap.size + 1, i, none⟩ y) := (Below.refl _ _).setCell (p := ⟨w.heap.size + 1, i, none⟩) (Nat.le_refl _) _
  exact ⟨h.1.setCell (p := ⟨w.heap.size + 1, i, none⟩) (Nat.le_succ _) _, h.2.1.below hb (Nat.lt_succ_self _), heap_setCell_same W (w.heap.size + 1) i _ _ y h.2.2⟩
theorem LU.fin {w W : World} {rv : Array Value} (h : LU w W rv) {v0 v1 v2 v3 v4 v5 v6 v7 v8 v9 v10 v11 : Value} : Below w.heap.size w (((((((((((((W.setCell ⟨w.heap.size, 0, none⟩ v0).setCell ⟨w.heap.size, 1, none⟩ v1).setCell ⟨w.heap.size, 2, none⟩ v2).setCell ⟨w.heap.size, 3, none⟩ v3).setCell ⟨w.heap.size, 4, none⟩ v4).setCell ⟨w.heap.size, 5, none⟩ v5).setCell ⟨w.heap.size, 6, none⟩ v6).setCell ⟨w.heap.size, 7, none⟩ v7).setCell ⟨w.heap.size, 8, none⟩ v8).setCell ⟨w.heap.size, 9, none⟩ v9).setCell ⟨w.heap.size, 10, none⟩ v10).setCell ⟨w.heap.size, 11, none⟩ v11)) :=
  ((((((((((((h.1.setCell (p := ⟨w.heap.size, 0, none⟩) (Nat.le_refl _) _).setCell (p := ⟨w.heap.size, 1, none⟩) (Nat.le_refl _) _).setCell (p := ⟨w.heap.size, 2, none⟩) (Nat.le_refl _) _).setCell (p := ⟨w.heap.size, 3, none⟩) (Nat.le_refl _) _).setCell (p := ⟨w.heap.size, 4, none⟩) (Nat.le_refl _) _).setCell (p := ⟨w.heap.size, 5, none⟩) (Nat.le_refl _) _).setCell (p := ⟨w.heap.size, 6, none⟩) (Nat.le_refl _) _).setCell (p := ⟨w.heap.size, 7, none⟩) (Nat.le_refl _) _).setCell (p := ⟨w.heap.size, 8, none⟩) (Nat.le_refl _) _).setCell (p := ⟨w.heap.size, 9, none⟩) (Nat.le_refl _) _).setCell (p := ⟨w.heap.size, 10, none⟩) (Nat.le_refl _) _).setCell (p := ⟨w.heap.size, 11, none⟩) (Nat.le_refl _) _)
theorem HoldV.drewu2 {W : World} {H : Nat} {vs : Array Value} {t : Nat} (h : HoldV W H vs t) : HoldV W.drew H vs t := h
theorem portsQ_mem {a b a0 b0 lo hi : Int} {r r1 : List (List UInt8)} (h : portsQ a b r = some (a0, b0, lo, hi, r1)) : ∀ x ∈ r1, x ∈ r := by
  unfold portsQ at h
  cases hk : keyT kPort r with
  | none =>
    rw [hk] at h
    simp only [Option.some.injEq, Prod.mk.injEq] at h
    obtain ⟨_, _, _, _, rfl⟩ := h
    exact fun x hx => hx
  | some v =>
    obtain ⟨z, r'⟩ := v
    rw [hk] at h
    simp only at h
    cases he : endsQ z with
    | none => rw [he] at h; cases h
    | some u =>
      obtain ⟨lo', hi'⟩ := u
      rw [he] at h
      simp only [Option.some.injEq, Prod.mk.injEq] at h
      obtain ⟨_, _, _, _, rfl⟩ := h
      exact fun x hx => (keyT_mem hk).2 x hx
theorem sideQ_mem {key : List UInt8} {a0 b0 lo hi : Int} {r r1 : List (List UInt8)} (h : sideQ key r = some (a0, b0, lo, hi, r1)) : ∀ x ∈ r1, x ∈ r := by
  unfold sideQ at h
  cases hk : keyT key r with
  | none => rw [hk] at h; cases h
  | some v =>
    obtain ⟨y, r'⟩ := v
    rw [hk] at h
    simp only at h
    by_cases hy : y = kAny
    · rw [if_pos hy] at h
      exact fun x hx => (keyT_mem hk).2 x (portsQ_mem h x hx)
    · rw [if_neg hy] at h
      by_cases hp : pfOK y = true
      · rw [if_pos hp] at h
        exact fun x hx => (keyT_mem hk).2 x (portsQ_mem h x hx)
      · rw [if_neg hp] at h; cases h
abbrev LSu (w w' : World) (x0 x1 x2 x3 x4 x5 x6 x7 x8 x9 x10 x11 : Int) : Prop := Below w.heap.size w w' ∧ w.heap.size + 1 < w'.heap.size ∧ w'.cell? ⟨w.heap.size + 1, 0, none⟩ = some (.int .i64 x0) ∧ w'.cell? ⟨w.heap.size + 1, 1, none⟩ = some (.int .i64 x1) ∧ w'.cell? ⟨w.heap.size + 1, 2, none⟩ = some (.int .i64 x2) ∧ w'.cell? ⟨w.heap.size + 1, 3, none⟩ = some (.int .i64 x3) ∧ w'.cell? ⟨w.heap.size + 1, 4, none⟩ = some (.int .i64 x4) ∧ w'.cell? ⟨w.heap.size + 1, 5, none⟩ = some (.int .i64 x5) ∧ w'.cell? ⟨w.heap.size + 1, 6, none⟩ = some (.int .i64 x6) ∧ w'.cell? ⟨w.heap.size + 1, 7, none⟩ = some (.int .i64 x7) ∧ w'.cell? ⟨w.heap.size + 1, 8, none⟩ = some (.int .i64 x8) ∧ w'.cell? ⟨w.heap.size + 1, 9, none⟩ = some (.int .i64 x9) ∧ w'.cell? ⟨w.heap.size + 1, 10, none⟩ = some (.int .i64 x10) ∧ w'.cell? ⟨w.heap.size + 1, 11, none⟩ = some (.int .i64 x11)
theorem LSu.of {w w' : World} {x0 x1 x2 x3 x4 x5 x6 x7 x8 x9 x10 x11 : Int} (h : Below w.heap.size w w') (h2 : HoldV w' (w.heap.size + 1) #[.int .i64 x0, .int .i64 x1, .int .i64 x2, .int .i64 x3, .int .i64 x4, .int .i64 x5, .int .i64 x6, .int .i64 x7, .int .i64 x8, .int .i64 x9, .int .i64 x10, .int .i64 x11] 45) : LSu w w' x0 x1 x2 x3 x4 x5 x6 x7 x8 x9 x10 x11 := ⟨h, h2.lt, h2.cell 0 _ rfl, h2.cell 1 _ rfl, h2.cell 2 _ rfl, h2.cell 3 _ rfl, h2.cell 4 _ rfl, h2.cell 5 _ rfl, h2.cell 6 _ rfl, h2.cell 7 _ rfl, h2.cell 8 _ rfl, h2.cell 9 _ rfl, h2.cell 10 _ rfl, h2.cell 11 _ rfl⟩
theorem LSu.hold_fin {w W : World} {rv : Array Value} (h : HoldV W (w.heap.size + 1) rv 45) {v0 v1 v2 v3 v4 v5 v6 v7 v8 v9 v10 v11 : Value} : HoldV (((((((((((((W.setCell ⟨w.heap.size, 0, none⟩ v0).setCell ⟨w.heap.size, 1, none⟩ v1).setCell ⟨w.heap.size, 2, none⟩ v2).setCell ⟨w.heap.size, 3, none⟩ v3).setCell ⟨w.heap.size, 4, none⟩ v4).setCell ⟨w.heap.size, 5, none⟩ v5).setCell ⟨w.heap.size, 6, none⟩ v6).setCell ⟨w.heap.size, 7, none⟩ v7).setCell ⟨w.heap.size, 8, none⟩ v8).setCell ⟨w.heap.size, 9, none⟩ v9).setCell ⟨w.heap.size, 10, none⟩ v10).setCell ⟨w.heap.size, 11, none⟩ v11)) (w.heap.size + 1) rv 45 := by
  have far : ∀ {W : World} (i : Nat) (v : Value), HoldV W (w.heap.size + 1) rv 45 → HoldV (W.setCell ⟨w.heap.size, i, none⟩ v) (w.heap.size + 1) rv 45 := fun i v h => (heap_setCell_other _ ⟨w.heap.size, i, none⟩ (w.heap.size + 1) v (by show w.heap.size + 1 ≠ w.heap.size; omega)).trans h
  exact far 11 v11 (far 10 v10 (far 9 v9 (far 8 v8 (far 7 v7 (far 6 v6 (far 5 v5 (far 4 v4 (far 3 v3 (far 2 v2 (far 1 v1 (far 0 v0 h)))))))))))
set_option maxHeartbeats 16000000 in
theorem specRule_walk (p : List UInt8) (r : List (List UInt8)) (b off n cap : Nat) (w : World) (hn : (p :: r).length = n) (ha : ArrS w (some ⟨b, off, none⟩) (p :: r)) (hc : n ≤ cap) (hw : ∀ q ∈ p :: r, q.length ≤ 1048576) :
    Calls Try.prog 20 #[.slice (some ⟨b, off, none⟩) n cap] w fun e w' => LPu w (p :: r) e w' := by
  have HTW := hide (two_allocs w (.cells #[.int .i64 0, .int .i64 0, .int .i64 0, .int .i64 0, .int .i64 0, .int .i64 0, .int .i64 0, .int .i64 0, .int .i64 0, .int .i64 0, .int .i64 0, .int .i64 0] 45) (.cells #[.int .i64 0, .int .i64 0, .int .i64 0, .int .i64 0, .int .i64 0, .int .i64 0, .int .i64 0, .int .i64 0, .int .i64 0, .int .i64 0, .int .i64 0, .int .i64 0] 45))
  have HL0 : Hid (LU w ((w.alloc (.cells #[.int .i64 0, .int .i64 0, .int .i64 0, .int .i64 0, .int .i64 0, .int .i64 0, .int .i64 0, .int .i64 0, .int .i64 0, .int .i64 0, .int .i64 0, .int .i64 0] 45)).alloc (.cells #[.int .i64 0, .int .i64 0, .int .i64 0, .int .i64 0, .int .i64 0, .int .i64 0, .int .i64 0, .int .i64 0, .int .i64 0, .int .i64 0, .int .i64 0, .int .i64 0] 45)) #[.int .i64 0, .int .i64 0, .int .i64 0, .int .i64 0, .int .i64 0, .int .i64 0, .int .i64 0, .int .i64 0, .int .i64 0, .int .i64 0, .int .i64 0, .int .i64 0]) := hide HTW.out
  have hnm : n ≤ 9223372036854775807 ∨ True := .inr trivial
  by_cases h7 : n < 7
  · have HP : Hid (ruP (p :: r) = none) := hide (ruP_short (by omega))
    have h7i : (n : Int) < 7 := by omega
    clear ha hn hw HTW hnm
    go_enter Try.func20, Try.ntmps20
    go_upto_region 3 with fail
    generalize (w.alloc (.cells #[.int .i64 0, .int .i64 0, .int .i64 0, .int .i64 0, .int .i64 0, .int .i64 0, .int .i64 0, .int .i64 0, .int .i64 0, .int .i64 0, .int .i64 0, .int .i64 0] 45)).alloc (.cells #[.int .i64 0, .int .i64 0, .int .i64 0, .int .i64 0, .int .i64 0, .int .i64 0, .int .i64 0, .int .i64 0, .int .i64 0, .int .i64 0, .int .i64 0, .int .i64 0] 45) = V0 at *
    have c0 := HL0.out.2.1.cell 0 (.int .i64 0) rfl
    have c1 := HL0.out.2.1.cell 1 (.int .i64 0) rfl
    have c2 := HL0.out.2.1.cell 2 (.int .i64 0) rfl
    have c3 := HL0.out.2.1.cell 3 (.int .i64 0) rfl
    have c4 := HL0.out.2.1.cell 4 (.int .i64 0) rfl
    have c5 := HL0.out.2.1.cell 5 (.int .i64 0) rfl
    have c6 := HL0.out.2.1.cell 6 (.int .i64 0) rfl
    have c7 := HL0.out.2.1.cell 7 (.int .i64 0) rfl
    have c8 := HL0.out.2.1.cell 8 (.int .i64 0) rfl
    have c9 := HL0.out.2.1.cell 9 (.int .i64 0) rfl
    have c10 := HL0.out.2.1.cell 10 (.int .i64 0) rfl
    have c11 := HL0.out.2.1.cell 11 (.int .i64 0) rfl
    have cf := HL0.out.2.1.frozen
    have r0 := HL0.out.2.2.cell 0 (.int .i64 0) rfl
    have r1 := HL0.out.2.2.cell 1 (.int .i64 0) rfl
    have r2 := HL0.out.2.2.cell 2 (.int .i64 0) rfl
    have r3 := HL0.out.2.2.cell 3 (.int .i64 0) rfl
    have r4 := HL0.out.2.2.cell 4 (.int .i64 0) rfl
    have r5 := HL0.out.2.2.cell 5 (.int .i64 0) rfl
    have r6 := HL0.out.2.2.cell 6 (.int .i64 0) rfl
    have r7 := HL0.out.2.2.cell 7 (.int .i64 0) rfl
    have r8 := HL0.out.2.2.cell 8 (.int .i64 0) rfl
    have r9 := HL0.out.2.2.cell 9 (.int .i64 0) rfl
    have r10 := HL0.out.2.2.cell 10 (.int .i64 0) rfl
    have r11 := HL0.out.2.2.cell 11 (.int .i64 0) rfl
    have rf := HL0.out.2.2.frozen
    go_wp2_with fail
    exact bodyPost_ret (v := .tuple #[.agg #[.int .i64 0, .int .i64 0, .int .i64 0, .int .i64 0, .int .i64 0, .int .i64 0, .int .i64 0, .int .i64 0, .int .i64 0, .int .i64 0, .int .i64 0, .int .i64 0], .bool false]) (by simp [results, Try.results20, go_sem, c0, c1, c2, c3, c4, c5, c6, c7, c8, c9, c10, c11]) rfl ⟨0, 0, 0, 0, 0, 0, 0, 0, 0, 0, 0, 0, by rw [HP.out]; rfl, by rw [HP.out]; simp, HL0.out.fin⟩
  · match r, hn, ha, hw with
    | [], hn, _, _ => exact absurd hn (by simp; omega)
    | [_], hn, _, _ => exact absurd hn (by simp; omega)
    | d :: q :: r, hn, ha, hw =>
    have h7i : ¬ (n : Int) < 7 := by omega
    have HA := hide ha
    have HW := hide hw
    have HN := hide hn
    obtain ⟨b', o', e0, hbl, k0⟩ := ha 0 (by simp)
    cases e0
    obtain ⟨b', o', e0, _, k1⟩ := ha 1 (by simp)
    cases e0
    obtain ⟨b', o', e0, _, k2⟩ := ha 2 (by simp)
    cases e0
    have HBL := hide hbl
    have cc0 := (HL0.out.1.cell (p := ⟨b, off + 0, none⟩) hbl).trans k0
    have cc1 := (HL0.out.1.cell (p := ⟨b, off + 1, none⟩) hbl).trans k1
    have cc2 := (HL0.out.1.cell (p := ⟨b, off + 2, none⟩) hbl).trans k2
    rw [Nat.add_zero] at cc0
    have K := hide (And.intro k0 (And.intro k1 k2))
    obtain ⟨a3, hsl, ha3⟩ := sls_from b off n cap 3 (by omega) hc
    have hsl3 : ∀ w : World, (Instr.slice 35 (.slice (some ⟨b, off, none⟩) n cap) (some (.int .i64 3)) none none).run Try.prog w = .ok (.slice a3 (n - 3) (cap - 3)) w := hsl
    have HA3 : Hid (ArrS w a3 r) := hide (by
      by_cases h3 : 3 < cap
      · rw [ha3 h3]; exact ha.drop 3
      · have : r = [] := List.length_eq_zero_iff.1 (by simp at hn; omega)
        subst this
        intro j hj
        simp at hj)
    have HR3 : Hid (r.length = n - 3) := hide (by simp at hn; omega)
    have HWR : Hid (∀ x ∈ r, x.length ≤ 1048576) := hide (fun x hx => hw x (by simp [hx]))
    have HW0 : Hid (p.length ≤ 1048576) := hide (hw p (by simp))
    have HW1 : Hid (d.length ≤ 1048576) := hide (hw d (by simp))
    have HW2 : Hid (q.length ≤ 1048576) := hide (hw q (by simp))
    have HRU : Hid (ruP (p :: d :: q :: r) = match protoQ q with
      | none => none
      | some P => match sideQ kFrom r with
        | none => none
        | some (sa, sb, sl, sh, r1) => match sideQ kTo r1 with
          | none => none
          | some (da, db, dl, dh, r2) => ruEnd (placeL (splitL 32 lActs) p 0) (placeL (splitL 32 lDirs) d 0) P sa sb sl sh da db dl dh r2) := hide (by simp only [ruP]; rw [if_neg (by simp at hn; omega)]; rfl)
    clear hsl ha hn hw k0 k1 k2 HTW hbl hnm HA HW HN
    have CQ := hide (fun W => l09ProtoOf_walk q W HW2.out)
    have CA := hide (fun W => l09Place_walk lActs p W (by decide) HW0.out)
    have CD := hide (fun W => l09Place_walk lDirs d W (by decide) HW1.out)
    generalize placeL (splitL 32 lActs) p 0 = A at *
    generalize placeL (splitL 32 lDirs) d 0 = D at *
    cases hq : protoQ q with
    | none =>
      rw [hq] at CQ
      have HP : Hid (ruP (p :: d :: q :: r) = none) := hide (by rw [HRU.out, hq])
      clear hq HRU
      go_enter Try.func20, Try.ntmps20
      go_wp2_with fail
      generalize (w.alloc (.cells #[.int .i64 0, .int .i64 0, .int .i64 0, .int .i64 0, .int .i64 0, .int .i64 0, .int .i64 0, .int .i64 0, .int .i64 0, .int .i64 0, .int .i64 0, .int .i64 0] 45)).alloc (.cells #[.int .i64 0, .int .i64 0, .int .i64 0, .int .i64 0, .int .i64 0, .int .i64 0, .int .i64 0, .int .i64 0, .int .i64 0, .int .i64 0, .int .i64 0, .int .i64 0] 45) = V0 at *
      refine (CQ.out V0).mono ?_
      rintro e u1 ⟨rfl, hb⟩
      have HL1 := hide (HL0.out.next hb)
      clear hb HL0 CQ
      clear cc0 cc1 cc2
      have cc0 := (HL1.out.1.cell (p := ⟨b, off + 0, none⟩) HBL.out).trans K.out.1
      have cc1 := (HL1.out.1.cell (p := ⟨b, off + 1, none⟩) HBL.out).trans K.out.2.1
      have cc2 := (HL1.out.1.cell (p := ⟨b, off + 2, none⟩) HBL.out).trans K.out.2.2
      rw [Nat.add_zero] at cc0
      go_wp2_with fail
      refine (CA.out u1).mono ?_
      rintro e u2 ⟨rfl, hb⟩
      have HL2 := hide (HL1.out.next hb)
      clear hb HL1 CA
      clear cc0 cc1 cc2
      have cc0 := (HL2.out.1.cell (p := ⟨b, off + 0, none⟩) HBL.out).trans K.out.1
      have cc1 := (HL2.out.1.cell (p := ⟨b, off + 1, none⟩) HBL.out).trans K.out.2.1
      have cc2 := (HL2.out.1.cell (p := ⟨b, off + 2, none⟩) HBL.out).trans K.out.2.2
      rw [Nat.add_zero] at cc0
      have r0 := HL2.out.2.2.cell 0 (.int .i64 0) rfl
      have r1 := HL2.out.2.2.cell 1 (.int .i64 0) rfl
      have r2 := HL2.out.2.2.cell 2 (.int .i64 0) rfl
      have r3 := HL2.out.2.2.cell 3 (.int .i64 0) rfl
      have r4 := HL2.out.2.2.cell 4 (.int .i64 0) rfl
      have r5 := HL2.out.2.2.cell 5 (.int .i64 0) rfl
      have r6 := HL2.out.2.2.cell 6 (.int .i64 0) rfl
      have r7 := HL2.out.2.2.cell 7 (.int .i64 0) rfl
      have r8 := HL2.out.2.2.cell 8 (.int .i64 0) rfl
      have r9 := HL2.out.2.2.cell 9 (.int .i64 0) rfl
      have r10 := HL2.out.2.2.cell 10 (.int .i64 0) rfl
      have r11 := HL2.out.2.2.cell 11 (.int .i64 0) rfl
      have rf := HL2.out.2.2.frozen
      have HM2 : Hid (LU w (u2.setCell ⟨w.heap.size + 1, 0, none⟩ (.int .i64 A)) #[.int .i64 A, .int .i64 0, .int .i64 0, .int .i64 0, .int .i64 0, .int .i64 0, .int .i64 0, .int .i64 0, .int .i64 0, .int .i64 0, .int .i64 0, .int .i64 0]) := hide (HL2.out.set 0 (.int .i64 A))
      have dd1 := (HM2.out.1.cell (p := ⟨b, off + 1, none⟩) HBL.out).trans K.out.2.1
      go_wp2_with fail
      refine (CD.out _).mono ?_
      rintro e u3 ⟨rfl, hb⟩
      have HL3 := hide (HM2.out.next hb)
      clear hb HL2 HM2 CD dd1
      clear cc0 cc1 cc2
      clear r0 r1 r2 r3 r4 r5 r6 r7 r8 r9 r10 r11 rf
      have r0 := HL3.out.2.2.cell 0 (.int .i64 A) rfl
      have r1 := HL3.out.2.2.cell 1 (.int .i64 0) rfl
      have r2 := HL3.out.2.2.cell 2 (.int .i64 0) rfl
      have r3 := HL3.out.2.2.cell 3 (.int .i64 0) rfl
      have r4 := HL3.out.2.2.cell 4 (.int .i64 0) rfl
      have r5 := HL3.out.2.2.cell 5 (.int .i64 0) rfl
      have r6 := HL3.out.2.2.cell 6 (.int .i64 0) rfl
      have r7 := HL3.out.2.2.cell 7 (.int .i64 0) rfl
      have r8 := HL3.out.2.2.cell 8 (.int .i64 0) rfl
      have r9 := HL3.out.2.2.cell 9 (.int .i64 0) rfl
      have r10 := HL3.out.2.2.cell 10 (.int .i64 0) rfl
      have r11 := HL3.out.2.2.cell 11 (.int .i64 0) rfl
      have rf := HL3.out.2.2.frozen
      have HM3 : Hid (LU w ((u3.setCell ⟨w.heap.size + 1, 1, none⟩ (.int .i64 D)).setCell ⟨w.heap.size + 1, 2, none⟩ (.int .i64 0)) #[.int .i64 A, .int .i64 D, .int .i64 0, .int .i64 0, .int .i64 0, .int .i64 0, .int .i64 0, .int .i64 0, .int .i64 0, .int .i64 0, .int .i64 0, .int .i64 0]) := hide ((HL3.out.set 1 (.int .i64 D)).set 2 (.int .i64 0))
      have CS := hide (l09Side_walk kFrom r a3 (n - 3) (cap - 3) w ((u3.setCell ⟨w.heap.size + 1, 1, none⟩ (.int .i64 D)).setCell ⟨w.heap.size + 1, 2, none⟩ (.int .i64 0)) HM3.out.1 HR3.out HA3.out (by omega) HWR.out (by decide))
      go_wp2_with fail
      refine CS.out.mono ?_
      rintro e u4 ⟨sa, sb, sl, sh, v1, rfl, hres, hb⟩
      have HL4 := hide (HM3.out.next hb)
      have HL5 := hide (HL4.out.next ((Below.refl _ _).alloc (Nat.le_refl _) (.cells #[.int .i64 sa, .int .i64 sb] 37)))
      have HX5 : Hid (HoldV (u4.alloc (.cells #[.int .i64 sa, .int .i64 sb] 37)) u4.heap.size #[.int .i64 sa, .int .i64 sb] 37) := hide (heap_alloc_new _ _)
      clear hb HL3 HM3 CS HL4
      clear r0 r1 r2 r3 r4 r5 r6 r7 r8 r9 r10 r11 rf

      clear hres
      have c0 := HL5.out.2.1.cell 0 (.int .i64 0) rfl
      have c1 := HL5.out.2.1.cell 1 (.int .i64 0) rfl
      have c2 := HL5.out.2.1.cell 2 (.int .i64 0) rfl
      have c3 := HL5.out.2.1.cell 3 (.int .i64 0) rfl
      have c4 := HL5.out.2.1.cell 4 (.int .i64 0) rfl
      have c5 := HL5.out.2.1.cell 5 (.int .i64 0) rfl
      have c6 := HL5.out.2.1.cell 6 (.int .i64 0) rfl
      have c7 := HL5.out.2.1.cell 7 (.int .i64 0) rfl
      have c8 := HL5.out.2.1.cell 8 (.int .i64 0) rfl
      have c9 := HL5.out.2.1.cell 9 (.int .i64 0) rfl
      have c10 := HL5.out.2.1.cell 10 (.int .i64 0) rfl
      have c11 := HL5.out.2.1.cell 11 (.int .i64 0) rfl
      have cf := HL5.out.2.1.frozen
      have r0 := HL5.out.2.2.cell 0 (.int .i64 A) rfl
      have r1 := HL5.out.2.2.cell 1 (.int .i64 D) rfl
      have r2 := HL5.out.2.2.cell 2 (.int .i64 0) rfl
      have r3 := HL5.out.2.2.cell 3 (.int .i64 0) rfl
      have r4 := HL5.out.2.2.cell 4 (.int .i64 0) rfl
      have r5 := HL5.out.2.2.cell 5 (.int .i64 0) rfl
      have r6 := HL5.out.2.2.cell 6 (.int .i64 0) rfl
      have r7 := HL5.out.2.2.cell 7 (.int .i64 0) rfl
      have r8 := HL5.out.2.2.cell 8 (.int .i64 0) rfl
      have r9 := HL5.out.2.2.cell 9 (.int .i64 0) rfl
      have r10 := HL5.out.2.2.cell 10 (.int .i64 0) rfl
      have r11 := HL5.out.2.2.cell 11 (.int .i64 0) rfl
      have rf := HL5.out.2.2.frozen
      go_wp2_with fail
      exact bodyPost_ret (v := .tuple #[.agg #[.int .i64 A, .int .i64 D, .int .i64 0, .int .i64 0, .int .i64 0, .int .i64 0, .int .i64 0, .int .i64 0, .int .i64 0, .int .i64 0, .int .i64 0, .int .i64 0], .bool false]) (by simp [results, Try.results20, go_sem, c0, c1, c2, c3, c4, c5, c6, c7, c8, c9, c10, c11]) rfl ⟨A, D, 0, 0, 0, 0, 0, 0, 0, 0, 0, 0, by rw [HP.out]; rfl, by rw [HP.out]; simp, HL5.out.fin⟩

    | some P =>
      rw [hq] at CQ
      have HRU2 : Hid (ruP (p :: d :: q :: r) = match sideQ kFrom r with
        | none => none
        | some (sa, sb, sl, sh, r1) => match sideQ kTo r1 with
          | none => none
          | some (da, db, dl, dh, r2) => ruEnd A D P sa sb sl sh da db dl dh r2) := hide (by rw [HRU.out, hq])
      clear hq HRU
      go_enter Try.func20, Try.ntmps20
      go_wp2_with fail
      generalize (w.alloc (.cells #[.int .i64 0, .int .i64 0, .int .i64 0, .int .i64 0, .int .i64 0, .int .i64 0, .int .i64 0, .int .i64 0, .int .i64 0, .int .i64 0, .int .i64 0, .int .i64 0] 45)).alloc (.cells #[.int .i64 0, .int .i64 0, .int .i64 0, .int .i64 0, .int .i64 0, .int .i64 0, .int .i64 0, .int .i64 0, .int .i64 0, .int .i64 0, .int .i64 0, .int .i64 0] 45) = V0 at *
      refine (CQ.out V0).mono ?_
      rintro e u1 ⟨rfl, hb⟩
      have HL1 := hide (HL0.out.next hb)
      clear hb HL0 CQ
      clear cc0 cc1 cc2
      have cc0 := (HL1.out.1.cell (p := ⟨b, off + 0, none⟩) HBL.out).trans K.out.1
      have cc1 := (HL1.out.1.cell (p := ⟨b, off + 1, none⟩) HBL.out).trans K.out.2.1
      have cc2 := (HL1.out.1.cell (p := ⟨b, off + 2, none⟩) HBL.out).trans K.out.2.2
      rw [Nat.add_zero] at cc0
      go_wp2_with fail
      refine (CA.out u1).mono ?_
      rintro e u2 ⟨rfl, hb⟩
      have HL2 := hide (HL1.out.next hb)
      clear hb HL1 CA
      clear cc0 cc1 cc2
      have cc0 := (HL2.out.1.cell (p := ⟨b, off + 0, none⟩) HBL.out).trans K.out.1
      have cc1 := (HL2.out.1.cell (p := ⟨b, off + 1, none⟩) HBL.out).trans K.out.2.1
      have cc2 := (HL2.out.1.cell (p := ⟨b, off + 2, none⟩) HBL.out).trans K.out.2.2
      rw [Nat.add_zero] at cc0
      have r0 := HL2.out.2.2.cell 0 (.int .i64 0) rfl
      have r1 := HL2.out.2.2.cell 1 (.int .i64 0) rfl
      have r2 := HL2.out.2.2.cell 2 (.int .i64 0) rfl
      have r3 := HL2.out.2.2.cell 3 (.int .i64 0) rfl
      have r4 := HL2.out.2.2.cell 4 (.int .i64 0) rfl
      have r5 := HL2.out.2.2.cell 5 (.int .i64 0) rfl
      have r6 := HL2.out.2.2.cell 6 (.int .i64 0) rfl
      have r7 := HL2.out.2.2.cell 7 (.int .i64 0) rfl
      have r8 := HL2.out.2.2.cell 8 (.int .i64 0) rfl
      have r9 := HL2.out.2.2.cell 9 (.int .i64 0) rfl
      have r10 := HL2.out.2.2.cell 10 (.int .i64 0) rfl
      have r11 := HL2.out.2.2.cell 11 (.int .i64 0) rfl
      have rf := HL2.out.2.2.frozen
      have HM2 : Hid (LU w (u2.setCell ⟨w.heap.size + 1, 0, none⟩ (.int .i64 A)) #[.int .i64 A, .int .i64 0, .int .i64 0, .int .i64 0, .int .i64 0, .int .i64 0, .int .i64 0, .int .i64 0, .int .i64 0, .int .i64 0, .int .i64 0, .int .i64 0]) := hide (HL2.out.set 0 (.int .i64 A))
      have dd1 := (HM2.out.1.cell (p := ⟨b, off + 1, none⟩) HBL.out).trans K.out.2.1
      go_wp2_with fail
      refine (CD.out _).mono ?_
      rintro e u3 ⟨rfl, hb⟩
      have HL3 := hide (HM2.out.next hb)
      clear hb HL2 HM2 CD dd1
      clear cc0 cc1 cc2
      clear r0 r1 r2 r3 r4 r5 r6 r7 r8 r9 r10 r11 rf
      have r0 := HL3.out.2.2.cell 0 (.int .i64 A) rfl
      have r1 := HL3.out.2.2.cell 1 (.int .i64 0) rfl
      have r2 := HL3.out.2.2.cell 2 (.int .i64 0) rfl
      have r3 := HL3.out.2.2.cell 3 (.int .i64 0) rfl
      have r4 := HL3.out.2.2.cell 4 (.int .i64 0) rfl
      have r5 := HL3.out.2.2.cell 5 (.int .i64 0) rfl
      have r6 := HL3.out.2.2.cell 6 (.int .i64 0) rfl
      have r7 := HL3.out.2.2.cell 7 (.int .i64 0) rfl
      have r8 := HL3.out.2.2.cell 8 (.int .i64 0) rfl
      have r9 := HL3.out.2.2.cell 9 (.int .i64 0) rfl
      have r10 := HL3.out.2.2.cell 10 (.int .i64 0) rfl
      have r11 := HL3.out.2.2.cell 11 (.int .i64 0) rfl
      have rf := HL3.out.2.2.frozen
      have HM3 : Hid (LU w ((u3.setCell ⟨w.heap.size + 1, 1, none⟩ (.int .i64 D)).setCell ⟨w.heap.size + 1, 2, none⟩ (.int .i64 P)) #[.int .i64 A, .int .i64 D, .int .i64 P, .int .i64 0, .int .i64 0, .int .i64 0, .int .i64 0, .int .i64 0, .int .i64 0, .int .i64 0, .int .i64 0, .int .i64 0]) := hide ((HL3.out.set 1 (.int .i64 D)).set 2 (.int .i64 P))
      have CS := hide (l09Side_walk kFrom r a3 (n - 3) (cap - 3) w ((u3.setCell ⟨w.heap.size + 1, 1, none⟩ (.int .i64 D)).setCell ⟨w.heap.size + 1, 2, none⟩ (.int .i64 P)) HM3.out.1 HR3.out HA3.out (by omega) HWR.out (by decide))
      go_wp2_with fail
      refine CS.out.mono ?_
      rintro e u4 ⟨sa, sb, sl, sh, v1, rfl, hres, hb⟩
      have HL4 := hide (HM3.out.next hb)
      have HL5 := hide (HL4.out.next ((Below.refl _ _).alloc (Nat.le_refl _) (.cells #[.int .i64 sa, .int .i64 sb] 37)))
      have HX5 : Hid (HoldV (u4.alloc (.cells #[.int .i64 sa, .int .i64 sb] 37)) u4.heap.size #[.int .i64 sa, .int .i64 sb] 37) := hide (heap_alloc_new _ _)
      clear hb HL3 HM3 CS HL4
      clear r0 r1 r2 r3 r4 r5 r6 r7 r8 r9 r10 r11 rf
      cases hs : sideQ kFrom r with
      | none =>
        have HP : Hid (ruP (p :: d :: q :: r) = none) := hide (by rw [HRU2.out, hs])
        clear hres hs HRU2
        have c0 := HL5.out.2.1.cell 0 (.int .i64 0) rfl
        have c1 := HL5.out.2.1.cell 1 (.int .i64 0) rfl
        have c2 := HL5.out.2.1.cell 2 (.int .i64 0) rfl
        have c3 := HL5.out.2.1.cell 3 (.int .i64 0) rfl
        have c4 := HL5.out.2.1.cell 4 (.int .i64 0) rfl
        have c5 := HL5.out.2.1.cell 5 (.int .i64 0) rfl
        have c6 := HL5.out.2.1.cell 6 (.int .i64 0) rfl
        have c7 := HL5.out.2.1.cell 7 (.int .i64 0) rfl
        have c8 := HL5.out.2.1.cell 8 (.int .i64 0) rfl
        have c9 := HL5.out.2.1.cell 9 (.int .i64 0) rfl
        have c10 := HL5.out.2.1.cell 10 (.int .i64 0) rfl
        have c11 := HL5.out.2.1.cell 11 (.int .i64 0) rfl
        have cf := HL5.out.2.1.frozen
        have r0 := HL5.out.2.2.cell 0 (.int .i64 A) rfl
        have r1 := HL5.out.2.2.cell 1 (.int .i64 D) rfl
        have r2 := HL5.out.2.2.cell 2 (.int .i64 P) rfl
        have r3 := HL5.out.2.2.cell 3 (.int .i64 0) rfl
        have r4 := HL5.out.2.2.cell 4 (.int .i64 0) rfl
        have r5 := HL5.out.2.2.cell 5 (.int .i64 0) rfl
        have r6 := HL5.out.2.2.cell 6 (.int .i64 0) rfl
        have r7 := HL5.out.2.2.cell 7 (.int .i64 0) rfl
        have r8 := HL5.out.2.2.cell 8 (.int .i64 0) rfl
        have r9 := HL5.out.2.2.cell 9 (.int .i64 0) rfl
        have r10 := HL5.out.2.2.cell 10 (.int .i64 0) rfl
        have r11 := HL5.out.2.2.cell 11 (.int .i64 0) rfl
        have rf := HL5.out.2.2.frozen
        go_wp2_with fail
        exact bodyPost_ret (v := .tuple #[.agg #[.int .i64 A, .int .i64 D, .int .i64 P, .int .i64 0, .int .i64 0, .int .i64 0, .int .i64 0, .int .i64 0, .int .i64 0, .int .i64 0, .int .i64 0, .int .i64 0], .bool false]) (by simp [results, Try.results20, go_sem, c0, c1, c2, c3, c4, c5, c6, c7, c8, c9, c10, c11]) rfl ⟨A, D, P, 0, 0, 0, 0, 0, 0, 0, 0, 0, by rw [HP.out]; rfl, by rw [HP.out]; simp, HL5.out.fin⟩
      | some v0 =>
        obtain ⟨sa0, sb0, sl0, sh0, wt1⟩ := v0
        obtain ⟨e1, e2, e3, e4, aa, n1, c1, hv1, harr1, hlen1, hle1⟩ := hres _ _ _ _ _ hs
        subst e1 e2 e3 e4 hv1
        have HRU3 : Hid (ruP (p :: d :: q :: r) = match sideQ kTo wt1 with
          | none => none
          | some (da, db, dl, dh, wt2) => ruEnd A D P sa sb sl sh da db dl dh wt2) := hide (by rw [HRU2.out, hs])
        have HW1R : Hid (∀ x ∈ wt1, x.length ≤ 1048576) := hide (fun x hx => HWR.out x (sideQ_mem hs x hx))
        have HM6 : Hid (LU w (((((u4.alloc (.cells #[.int .i64 sa, .int .i64 sb] 37)).setCell ⟨w.heap.size + 1, 3, none⟩ (.int .i64 sa)).setCell ⟨w.heap.size + 1, 4, none⟩ (.int .i64 sb)).setCell ⟨w.heap.size + 1, 5, none⟩ (.int .i64 sl)).setCell ⟨w.heap.size + 1, 6, none⟩ (.int .i64 sh)) #[.int .i64 A, .int .i64 D, .int .i64 P, .int .i64 sa, .int .i64 sb, .int .i64 sl, .int .i64 sh, .int .i64 0, .int .i64 0, .int .i64 0, .int .i64 0, .int .i64 0]) := hide ((((HL5.out.set 3 (.int .i64 sa)).set 4 (.int .i64 sb)).set 5 (.int .i64 sl)).set 6 (.int .i64 sh))
        have CT := hide (l09Side_walk kTo wt1 aa n1 c1 w (((((u4.alloc (.cells #[.int .i64 sa, .int .i64 sb] 37)).setCell ⟨w.heap.size + 1, 3, none⟩ (.int .i64 sa)).setCell ⟨w.heap.size + 1, 4, none⟩ (.int .i64 sb)).setCell ⟨w.heap.size + 1, 5, none⟩ (.int .i64 sl)).setCell ⟨w.heap.size + 1, 6, none⟩ (.int .i64 sh)) HM6.out.1 hlen1 harr1 hle1 HW1R.out (by decide))
        have z0 := HX5.out.cell 0 _ rfl
        have z1 := HX5.out.cell 1 _ rfl
        clear hres hs HRU2 hlen1 harr1 hle1
        have r0 := HL5.out.2.2.cell 0 (.int .i64 A) rfl
        have r1 := HL5.out.2.2.cell 1 (.int .i64 D) rfl
        have r2 := HL5.out.2.2.cell 2 (.int .i64 P) rfl
        have r3 := HL5.out.2.2.cell 3 (.int .i64 0) rfl
        have r4 := HL5.out.2.2.cell 4 (.int .i64 0) rfl
        have r5 := HL5.out.2.2.cell 5 (.int .i64 0) rfl
        have r6 := HL5.out.2.2.cell 6 (.int .i64 0) rfl
        have r7 := HL5.out.2.2.cell 7 (.int .i64 0) rfl
        have r8 := HL5.out.2.2.cell 8 (.int .i64 0) rfl
        have r9 := HL5.out.2.2.cell 9 (.int .i64 0) rfl
        have r10 := HL5.out.2.2.cell 10 (.int .i64 0) rfl
        have r11 := HL5.out.2.2.cell 11 (.int .i64 0) rfl
        have rf := HL5.out.2.2.frozen
        go_wp2_with fail
        refine CT.out.mono ?_
        rintro e u7 ⟨da, db, dl, dh, v2, rfl, hres2, hb⟩
        have HL8 := hide ((HM6.out.next hb).next ((Below.refl _ _).alloc (Nat.le_refl _) (.cells #[.int .i64 da, .int .i64 db] 37)))
        have HX8 : Hid (HoldV (u7.alloc (.cells #[.int .i64 da, .int .i64 db] 37)) u7.heap.size #[.int .i64 da, .int .i64 db] 37) := hide (heap_alloc_new _ _)
        clear hb HL5 HM6 CT HX5 z0 z1
        clear r0 r1 r2 r3 r4 r5 r6 r7 r8 r9 r10 r11 rf
        cases ht : sideQ kTo wt1 with
        | none =>
          have HP : Hid (ruP (p :: d :: q :: r) = none) := hide (by rw [HRU3.out, ht])
          clear hres2 ht HRU3
          have c0 := HL8.out.2.1.cell 0 (.int .i64 0) rfl
          have c1 := HL8.out.2.1.cell 1 (.int .i64 0) rfl
          have c2 := HL8.out.2.1.cell 2 (.int .i64 0) rfl
          have c3 := HL8.out.2.1.cell 3 (.int .i64 0) rfl
          have c4 := HL8.out.2.1.cell 4 (.int .i64 0) rfl
          have c5 := HL8.out.2.1.cell 5 (.int .i64 0) rfl
          have c6 := HL8.out.2.1.cell 6 (.int .i64 0) rfl
          have c7 := HL8.out.2.1.cell 7 (.int .i64 0) rfl
          have c8 := HL8.out.2.1.cell 8 (.int .i64 0) rfl
          have c9 := HL8.out.2.1.cell 9 (.int .i64 0) rfl
          have c10 := HL8.out.2.1.cell 10 (.int .i64 0) rfl
          have c11 := HL8.out.2.1.cell 11 (.int .i64 0) rfl
          have cf := HL8.out.2.1.frozen
          have r0 := HL8.out.2.2.cell 0 (.int .i64 A) rfl
          have r1 := HL8.out.2.2.cell 1 (.int .i64 D) rfl
          have r2 := HL8.out.2.2.cell 2 (.int .i64 P) rfl
          have r3 := HL8.out.2.2.cell 3 (.int .i64 sa) rfl
          have r4 := HL8.out.2.2.cell 4 (.int .i64 sb) rfl
          have r5 := HL8.out.2.2.cell 5 (.int .i64 sl) rfl
          have r6 := HL8.out.2.2.cell 6 (.int .i64 sh) rfl
          have r7 := HL8.out.2.2.cell 7 (.int .i64 0) rfl
          have r8 := HL8.out.2.2.cell 8 (.int .i64 0) rfl
          have r9 := HL8.out.2.2.cell 9 (.int .i64 0) rfl
          have r10 := HL8.out.2.2.cell 10 (.int .i64 0) rfl
          have r11 := HL8.out.2.2.cell 11 (.int .i64 0) rfl
          have rf := HL8.out.2.2.frozen
          go_wp2_with fail
          exact bodyPost_ret (v := .tuple #[.agg #[.int .i64 A, .int .i64 D, .int .i64 P, .int .i64 sa, .int .i64 sb, .int .i64 sl, .int .i64 sh, .int .i64 0, .int .i64 0, .int .i64 0, .int .i64 0, .int .i64 0], .bool false]) (by simp [results, Try.results20, go_sem, c0, c1, c2, c3, c4, c5, c6, c7, c8, c9, c10, c11]) rfl ⟨A, D, P, sa, sb, sl, sh, 0, 0, 0, 0, 0, by rw [HP.out]; rfl, by rw [HP.out]; simp, HL8.out.fin⟩
        | some v0 =>
          obtain ⟨da0, db0, dl0, dh0, wt2⟩ := v0
          obtain ⟨e1, e2, e3, e4, a2, n2, c2, hv2, harr2, hlen2, hle2⟩ := hres2 _ _ _ _ _ ht
          subst e1 e2 e3 e4 hv2
          have HRU4 : Hid (ruP (p :: d :: q :: r) = ruEnd A D P sa sb sl sh da db dl dh wt2) := hide (by rw [HRU3.out, ht])
          have HW2R : Hid (∀ x ∈ wt2, x.length ≤ 1048576) := hide (fun x hx => HW1R.out x (sideQ_mem ht x hx))
          have HM9 : Hid (LU w (((((u7.alloc (.cells #[.int .i64 da, .int .i64 db] 37)).setCell ⟨w.heap.size + 1, 7, none⟩ (.int .i64 da)).setCell ⟨w.heap.size + 1, 8, none⟩ (.int .i64 db)).setCell ⟨w.heap.size + 1, 9, none⟩ (.int .i64 dl)).setCell ⟨w.heap.size + 1, 10, none⟩ (.int .i64 dh)) #[.int .i64 A, .int .i64 D, .int .i64 P, .int .i64 sa, .int .i64 sb, .int .i64 sl, .int .i64 sh, .int .i64 da, .int .i64 db, .int .i64 dl, .int .i64 dh, .int .i64 0]) := hide ((((HL8.out.set 7 (.int .i64 da)).set 8 (.int .i64 db)).set 9 (.int .i64 dl)).set 10 (.int .i64 dh))
          have z0 := HX8.out.cell 0 _ rfl
          have z1 := HX8.out.cell 1 _ rfl
          clear hres2 ht HRU3
          have r0 := HL8.out.2.2.cell 0 (.int .i64 A) rfl
          have r1 := HL8.out.2.2.cell 1 (.int .i64 D) rfl
          have r2 := HL8.out.2.2.cell 2 (.int .i64 P) rfl
          have r3 := HL8.out.2.2.cell 3 (.int .i64 sa) rfl
          have r4 := HL8.out.2.2.cell 4 (.int .i64 sb) rfl
          have r5 := HL8.out.2.2.cell 5 (.int .i64 sl) rfl
          have r6 := HL8.out.2.2.cell 6 (.int .i64 sh) rfl
          have r7 := HL8.out.2.2.cell 7 (.int .i64 0) rfl
          have r8 := HL8.out.2.2.cell 8 (.int .i64 0) rfl
          have r9 := HL8.out.2.2.cell 9 (.int .i64 0) rfl
          have r10 := HL8.out.2.2.cell 10 (.int .i64 0) rfl
          have r11 := HL8.out.2.2.cell 11 (.int .i64 0) rfl
          have rf := HL8.out.2.2.frozen
          cases wt2 with
          | nil =>
            have hn2 : n2 = 0 := hlen2.symm
            subst hn2
            have HFIN : Hid (ruP (p :: d :: q :: r) = ruFin A D P sa sb sl sh da db dl dh 0) := hide HRU4.out
            clear hlen2 harr2 HRU4
            go_wp2_with fail
            clear r0 r1 r2 r3 r4 r5 r6 r7 r8 r9 r10 r11 rf
            clear z0 z1
            generalize (((((u7.alloc (.cells #[.int .i64 da, .int .i64 db] 37)).setCell ⟨w.heap.size + 1, 7, none⟩ (.int .i64 da)).setCell ⟨w.heap.size + 1, 8, none⟩ (.int .i64 db)).setCell ⟨w.heap.size + 1, 9, none⟩ (.int .i64 dl)).setCell ⟨w.heap.size + 1, 10, none⟩ (.int .i64 dh)) = W9 at *
            have HI : Hid ((ruP (p :: d :: q :: r)).isSome = ruOK A D P sa sb sl sh da db dl dh 0) := hide (by rw [HFIN.out]; unfold ruFin; cases ruOK A D P sa sb sl sh da db dl dh 0 <;> rfl)
            have HV : Hid (∀ v, ruP (p :: d :: q :: r) = some v → v = [A, D, P, sa, sb, sl, sh, da, db, dl, dh, 0]) := hide (by
              rw [HFIN.out]; unfold ruFin
              intro v hv
              split at hv
              · cases hv; rfl
              · cases hv)
            have CR := hide (fun W => specRuOK_walk A D P sa sb sl sh da db dl dh 0 W)
            generalize ruOK A D P sa sb sl sh da db dl dh 0 = bq at *
            have hL := HM9.out.next ((Below.refl _ _).drew)
            have hK : LSu w W9.drew A D P sa sb sl sh da db dl dh 0 := LSu.of hL.1 hL.2.2
            refine wp_region_lex (fun w' => LSu w w' A D P sa sb sl sh da db dl dh 0) ((0, true) :: (1, true) :: (2, true) :: (3, true) :: (4, true) :: (5, true) :: (6, false) :: (7, true) :: (8, false) :: (9, true) :: []) (by kernel_rfl) (by kernel_rfl) (by kernel_rfl) rfl hK ?_
            repeat (first
              | (refine wpLex_skip rfl (by rfl) (fun _ _ _ h => h) ?_; simp only [Act.put, List.setIfInBounds_toArray, List.set_cons_zero, List.set_cons_succ])
              | (refine wpLex_pass rfl (by rfl) hK ?_; simp only [Act.put, List.setIfInBounds_toArray, List.set_cons_zero, List.set_cons_succ])
              | (refine wpLex_take ?_ rfl (by rfl) (fun _ _ _ h => h) ?_ ?_; rotate_left; (intro wq hSw; (try dsimp only at hSw); first | (go_simp; done) | (go_simp; with_reducible rfl)); simp only [Act.put, List.setIfInBounds_toArray, List.set_cons_zero, List.set_cons_succ])
              | (refine wpLex_act rfl (by rfl) ?_; intro KK hKK; go_simp; (go_at_call 41; refine (CR.out _).mono ?_; clear CR; rintro e w9 ⟨rfl, hb9⟩; replace hL := hL.next hb9; have hK := LSu.of hL.1 hL.2.2); (try go_wp2_with fail); refine hKK.out _ _ hK ?_; clear hKK KK; try simp only [Act.put, List.setIfInBounds_toArray, List.set_cons_zero, List.set_cons_succ])
              | (refine wpLex_act rfl (by rfl) ?_; intro KK hKK; have c0 := hL.2.1.cell 0 (.int .i64 0) rfl; have c1 := hL.2.1.cell 1 (.int .i64 0) rfl; have c2 := hL.2.1.cell 2 (.int .i64 0) rfl; have c3 := hL.2.1.cell 3 (.int .i64 0) rfl; have c4 := hL.2.1.cell 4 (.int .i64 0) rfl; have c5 := hL.2.1.cell 5 (.int .i64 0) rfl; have c6 := hL.2.1.cell 6 (.int .i64 0) rfl; have c7 := hL.2.1.cell 7 (.int .i64 0) rfl; have c8 := hL.2.1.cell 8 (.int .i64 0) rfl; have c9 := hL.2.1.cell 9 (.int .i64 0) rfl; have c10 := hL.2.1.cell 10 (.int .i64 0) rfl; have c11 := hL.2.1.cell 11 (.int .i64 0) rfl; have cf := hL.2.1.frozen; go_simp; refine hKK.out _ _ (LSu.of hL.fin (LSu.hold_fin hL.2.2)) ?_; clear hKK KK; try simp only [Act.put, List.setIfInBounds_toArray, List.set_cons_zero, List.set_cons_succ]))
            refine wpLex_nil ?_
            go_wp2_with fail
            exact bodyPost_ret (v := .tuple #[.agg #[.int .i64 A, .int .i64 D, .int .i64 P, .int .i64 sa, .int .i64 sb, .int .i64 sl, .int .i64 sh, .int .i64 da, .int .i64 db, .int .i64 dl, .int .i64 dh, .int .i64 0], .bool bq]) (by simp [results, Try.results20, go_sem, c0, c1, c2, c3, c4, c5, c6, c7, c8, c9, c10, c11]) rfl ⟨A, D, P, sa, sb, sl, sh, da, db, dl, dh, 0, by rw [HI.out], HV.out, hL.fin⟩
          | cons s wt3 =>
            cases wt3 with
            | nil =>
              have hn2 : n2 = 1 := hlen2.symm
              subst hn2
              obtain ⟨b2, o2, ea2, hbl2, kk2⟩ := harr2 0 (by simp)
              subst ea2
              have HRU5 : Hid (ruP (p :: d :: q :: r) = if placeL (splitL 32 lStates) s 0 < 1 then none else ruFin A D P sa sb sl sh da db dl dh (placeL (splitL 32 lStates) s 0)) := hide HRU4.out
              have HWS : Hid (s.length ≤ 1048576) := hide (HW2R.out s (by simp))
              have CX := hide (fun W => l09Place_walk lStates s W (by decide) HWS.out)
              generalize placeL (splitL 32 lStates) s 0 = SS at *
              clear hlen2 harr2 HRU4
              go_upto_region 20 with fail
              clear r0 r1 r2 r3 r4 r5 r6 r7 r8 r9 r10 r11 rf
              clear z0 z1
              generalize (((((u7.alloc (.cells #[.int .i64 da, .int .i64 db] 37)).setCell ⟨w.heap.size + 1, 7, none⟩ (.int .i64 da)).setCell ⟨w.heap.size + 1, 8, none⟩ (.int .i64 db)).setCell ⟨w.heap.size + 1, 9, none⟩ (.int .i64 dl)).setCell ⟨w.heap.size + 1, 10, none⟩ (.int .i64 dh)) = W9 at *
              have ks := (HM9.out.1.cell (p := ⟨b2, o2 + 0, none⟩) hbl2).trans kk2
              rw [Nat.add_zero] at ks
              clear kk2
              go_wp2_with fail
              refine (CX.out _).mono ?_
              rintro e u9 ⟨rfl, hb⟩
              have HL10 := hide (HM9.out.next hb)
              clear hb HM9 CX ks
              have r0 := HL10.out.2.2.cell 0 (.int .i64 A) rfl
              have r1 := HL10.out.2.2.cell 1 (.int .i64 D) rfl
              have r2 := HL10.out.2.2.cell 2 (.int .i64 P) rfl
              have r3 := HL10.out.2.2.cell 3 (.int .i64 sa) rfl
              have r4 := HL10.out.2.2.cell 4 (.int .i64 sb) rfl
              have r5 := HL10.out.2.2.cell 5 (.int .i64 sl) rfl
              have r6 := HL10.out.2.2.cell 6 (.int .i64 sh) rfl
              have r7 := HL10.out.2.2.cell 7 (.int .i64 da) rfl
              have r8 := HL10.out.2.2.cell 8 (.int .i64 db) rfl
              have r9 := HL10.out.2.2.cell 9 (.int .i64 dl) rfl
              have r10 := HL10.out.2.2.cell 10 (.int .i64 dh) rfl
              have r11 := HL10.out.2.2.cell 11 (.int .i64 0) rfl
              have rf := HL10.out.2.2.frozen
              have HM10 : Hid (LU w (u9.setCell ⟨w.heap.size + 1, 11, none⟩ (.int .i64 SS)) #[.int .i64 A, .int .i64 D, .int .i64 P, .int .i64 sa, .int .i64 sb, .int .i64 sl, .int .i64 sh, .int .i64 da, .int .i64 db, .int .i64 dl, .int .i64 dh, .int .i64 SS]) := hide (HL10.out.set 11 (.int .i64 SS))
              go_upto_region 22 with fail
              clear r0 r1 r2 r3 r4 r5 r6 r7 r8 r9 r10 r11 rf
              generalize u9.setCell ⟨w.heap.size + 1, 11, none⟩ (.int .i64 SS) = W10 at *
              clear HL10
              by_cases h1 : SS < 1
              · have HP : Hid (ruP (p :: d :: q :: r) = none) := hide (by rw [HRU5.out, if_pos h1])
                have c0 := HM10.out.2.1.cell 0 (.int .i64 0) rfl
                have c1 := HM10.out.2.1.cell 1 (.int .i64 0) rfl
                have c2 := HM10.out.2.1.cell 2 (.int .i64 0) rfl
                have c3 := HM10.out.2.1.cell 3 (.int .i64 0) rfl
                have c4 := HM10.out.2.1.cell 4 (.int .i64 0) rfl
                have c5 := HM10.out.2.1.cell 5 (.int .i64 0) rfl
                have c6 := HM10.out.2.1.cell 6 (.int .i64 0) rfl
                have c7 := HM10.out.2.1.cell 7 (.int .i64 0) rfl
                have c8 := HM10.out.2.1.cell 8 (.int .i64 0) rfl
                have c9 := HM10.out.2.1.cell 9 (.int .i64 0) rfl
                have c10 := HM10.out.2.1.cell 10 (.int .i64 0) rfl
                have c11 := HM10.out.2.1.cell 11 (.int .i64 0) rfl
                have cf := HM10.out.2.1.frozen
                have r0 := HM10.out.2.2.cell 0 (.int .i64 A) rfl
                have r1 := HM10.out.2.2.cell 1 (.int .i64 D) rfl
                have r2 := HM10.out.2.2.cell 2 (.int .i64 P) rfl
                have r3 := HM10.out.2.2.cell 3 (.int .i64 sa) rfl
                have r4 := HM10.out.2.2.cell 4 (.int .i64 sb) rfl
                have r5 := HM10.out.2.2.cell 5 (.int .i64 sl) rfl
                have r6 := HM10.out.2.2.cell 6 (.int .i64 sh) rfl
                have r7 := HM10.out.2.2.cell 7 (.int .i64 da) rfl
                have r8 := HM10.out.2.2.cell 8 (.int .i64 db) rfl
                have r9 := HM10.out.2.2.cell 9 (.int .i64 dl) rfl
                have r10 := HM10.out.2.2.cell 10 (.int .i64 dh) rfl
                have r11 := HM10.out.2.2.cell 11 (.int .i64 SS) rfl
                have rf := HM10.out.2.2.frozen
                go_wp2_with fail
                exact bodyPost_ret (v := .tuple #[.agg #[.int .i64 A, .int .i64 D, .int .i64 P, .int .i64 sa, .int .i64 sb, .int .i64 sl, .int .i64 sh, .int .i64 da, .int .i64 db, .int .i64 dl, .int .i64 dh, .int .i64 SS], .bool false]) (by simp [results, Try.results20, go_sem, c0, c1, c2, c3, c4, c5, c6, c7, c8, c9, c10, c11]) rfl ⟨A, D, P, sa, sb, sl, sh, da, db, dl, dh, SS, by rw [HP.out]; rfl, by rw [HP.out]; simp, HM10.out.fin⟩
              · have HFIN : Hid (ruP (p :: d :: q :: r) = ruFin A D P sa sb sl sh da db dl dh SS) := hide (by rw [HRU5.out, if_neg h1])
                clear HRU5
                have r0 := HM10.out.2.2.cell 0 (.int .i64 A) rfl
                have r1 := HM10.out.2.2.cell 1 (.int .i64 D) rfl
                have r2 := HM10.out.2.2.cell 2 (.int .i64 P) rfl
                have r3 := HM10.out.2.2.cell 3 (.int .i64 sa) rfl
                have r4 := HM10.out.2.2.cell 4 (.int .i64 sb) rfl
                have r5 := HM10.out.2.2.cell 5 (.int .i64 sl) rfl
                have r6 := HM10.out.2.2.cell 6 (.int .i64 sh) rfl
                have r7 := HM10.out.2.2.cell 7 (.int .i64 da) rfl
                have r8 := HM10.out.2.2.cell 8 (.int .i64 db) rfl
                have r9 := HM10.out.2.2.cell 9 (.int .i64 dl) rfl
                have r10 := HM10.out.2.2.cell 10 (.int .i64 dh) rfl
                have r11 := HM10.out.2.2.cell 11 (.int .i64 SS) rfl
                have rf := HM10.out.2.2.frozen
                go_upto_region 25 with fail
                clear r0 r1 r2 r3 r4 r5 r6 r7 r8 r9 r10 r11 rf
                have HI : Hid ((ruP (p :: d :: q :: r)).isSome = ruOK A D P sa sb sl sh da db dl dh SS) := hide (by rw [HFIN.out]; unfold ruFin; cases ruOK A D P sa sb sl sh da db dl dh SS <;> rfl)
                have HV : Hid (∀ v, ruP (p :: d :: q :: r) = some v → v = [A, D, P, sa, sb, sl, sh, da, db, dl, dh, SS]) := hide (by
                  rw [HFIN.out]; unfold ruFin
                  intro v hv
                  split at hv
                  · cases hv; rfl
                  · cases hv)
                have CR := hide (fun W => specRuOK_walk A D P sa sb sl sh da db dl dh SS W)
                generalize ruOK A D P sa sb sl sh da db dl dh SS = bq at *
                have hL := HM10.out.next ((Below.refl _ _).drew)
                have hK : LSu w W10.drew A D P sa sb sl sh da db dl dh SS := LSu.of hL.1 hL.2.2
                refine wp_region_lex (fun w' => LSu w w' A D P sa sb sl sh da db dl dh SS) ((0, true) :: (1, true) :: (2, true) :: (3, true) :: (4, true) :: (5, true) :: (6, false) :: (7, true) :: (8, false) :: (9, true) :: []) (by kernel_rfl) (by kernel_rfl) (by kernel_rfl) rfl hK ?_
                repeat (first
                  | (refine wpLex_skip rfl (by rfl) (fun _ _ _ h => h) ?_; simp only [Act.put, List.setIfInBounds_toArray, List.set_cons_zero, List.set_cons_succ])
                  | (refine wpLex_pass rfl (by rfl) hK ?_; simp only [Act.put, List.setIfInBounds_toArray, List.set_cons_zero, List.set_cons_succ])
                  | (refine wpLex_take ?_ rfl (by rfl) (fun _ _ _ h => h) ?_ ?_; rotate_left; (intro wq hSw; (try dsimp only at hSw); first | (go_simp; done) | (go_simp; with_reducible rfl)); simp only [Act.put, List.setIfInBounds_toArray, List.set_cons_zero, List.set_cons_succ])
                  | (refine wpLex_act rfl (by rfl) ?_; intro KK hKK; go_simp; (go_at_call 41; refine (CR.out _).mono ?_; clear CR; rintro e w9 ⟨rfl, hb9⟩; replace hL := hL.next hb9; have hK := LSu.of hL.1 hL.2.2); (try go_wp2_with fail); refine hKK.out _ _ hK ?_; clear hKK KK; try simp only [Act.put, List.setIfInBounds_toArray, List.set_cons_zero, List.set_cons_succ])
                  | (refine wpLex_act rfl (by rfl) ?_; intro KK hKK; have c0 := hL.2.1.cell 0 (.int .i64 0) rfl; have c1 := hL.2.1.cell 1 (.int .i64 0) rfl; have c2 := hL.2.1.cell 2 (.int .i64 0) rfl; have c3 := hL.2.1.cell 3 (.int .i64 0) rfl; have c4 := hL.2.1.cell 4 (.int .i64 0) rfl; have c5 := hL.2.1.cell 5 (.int .i64 0) rfl; have c6 := hL.2.1.cell 6 (.int .i64 0) rfl; have c7 := hL.2.1.cell 7 (.int .i64 0) rfl; have c8 := hL.2.1.cell 8 (.int .i64 0) rfl; have c9 := hL.2.1.cell 9 (.int .i64 0) rfl; have c10 := hL.2.1.cell 10 (.int .i64 0) rfl; have c11 := hL.2.1.cell 11 (.int .i64 0) rfl; have cf := hL.2.1.frozen; go_simp; refine hKK.out _ _ (LSu.of hL.fin (LSu.hold_fin hL.2.2)) ?_; clear hKK KK; try simp only [Act.put, List.setIfInBounds_toArray, List.set_cons_zero, List.set_cons_succ]))
                refine wpLex_nil ?_
                go_wp2_with fail
                exact bodyPost_ret (v := .tuple #[.agg #[.int .i64 A, .int .i64 D, .int .i64 P, .int .i64 sa, .int .i64 sb, .int .i64 sl, .int .i64 sh, .int .i64 da, .int .i64 db, .int .i64 dl, .int .i64 dh, .int .i64 SS], .bool bq]) (by simp [results, Try.results20, go_sem, c0, c1, c2, c3, c4, c5, c6, c7, c8, c9, c10, c11]) rfl ⟨A, D, P, sa, sb, sl, sh, da, db, dl, dh, SS, by rw [HI.out], HV.out, hL.fin⟩
            | cons s2 wt4 =>
              have hn2 : 2 ≤ n2 := by rw [← hlen2]; simp
              have hn2a : ((n2 : Int) == 1) = false := by simp; omega
              have hn2b : ((n2 : Int) == 0) = false := by simp; omega
              have HP : Hid (ruP (p :: d :: q :: r) = none) := hide HRU4.out
              have HI : Hid ((ruP (p :: d :: q :: r)).isSome = false) := hide (by rw [HP.out]; rfl)
              have HV : Hid (∀ v, ruP (p :: d :: q :: r) = some v → v = [A, D, P, sa, sb, sl, sh, da, db, dl, dh, 0]) := hide (by rw [HP.out]; simp)
              clear hlen2 harr2 HRU4 HP
              go_wp2_with fail
              clear r0 r1 r2 r3 r4 r5 r6 r7 r8 r9 r10 r11 rf
              clear z0 z1
              generalize (((((u7.alloc (.cells #[.int .i64 da, .int .i64 db] 37)).setCell ⟨w.heap.size + 1, 7, none⟩ (.int .i64 da)).setCell ⟨w.heap.size + 1, 8, none⟩ (.int .i64 db)).setCell ⟨w.heap.size + 1, 9, none⟩ (.int .i64 dl)).setCell ⟨w.heap.size + 1, 10, none⟩ (.int .i64 dh)) = W9 at *
              have hL := HM9.out.next ((Below.refl _ _).drew)
              have hK : LSu w W9.drew A D P sa sb sl sh da db dl dh 0 := LSu.of hL.1 hL.2.2
              refine wp_region_lex (fun w' => LSu w w' A D P sa sb sl sh da db dl dh 0) ((0, true) :: (1, true) :: (2, true) :: (3, true) :: (4, true) :: (5, true) :: (6, false) :: (7, true) :: (8, false) :: (9, true) :: []) (by kernel_rfl) (by kernel_rfl) (by kernel_rfl) rfl hK ?_
              repeat (first
                | (refine wpLex_skip rfl (by rfl) (fun _ _ _ h => h) ?_; simp only [Act.put, List.setIfInBounds_toArray, List.set_cons_zero, List.set_cons_succ])
                | (refine wpLex_pass rfl (by rfl) hK ?_; simp only [Act.put, List.setIfInBounds_toArray, List.set_cons_zero, List.set_cons_succ])
                | (refine wpLex_take ?_ rfl (by rfl) (fun _ _ _ h => h) ?_ ?_; rotate_left; (intro wq hSw; (try dsimp only at hSw); first | (go_simp; done) | (go_simp; with_reducible rfl)); simp only [Act.put, List.setIfInBounds_toArray, List.set_cons_zero, List.set_cons_succ])
                | (refine wpLex_act rfl (by rfl) ?_; intro KK hKK; go_simp; (go_at_call 41; refine (CR.out _).mono ?_; clear CR; rintro e w9 ⟨rfl, hb9⟩; replace hL := hL.next hb9; have hK := LSu.of hL.1 hL.2.2); (try go_wp2_with fail); refine hKK.out _ _ hK ?_; clear hKK KK; try simp only [Act.put, List.setIfInBounds_toArray, List.set_cons_zero, List.set_cons_succ])
                | (refine wpLex_act rfl (by rfl) ?_; intro KK hKK; have c0 := HM9.out.2.1.cell 0 (.int .i64 0) rfl; have c1 := HM9.out.2.1.cell 1 (.int .i64 0) rfl; have c2 := HM9.out.2.1.cell 2 (.int .i64 0) rfl; have c3 := HM9.out.2.1.cell 3 (.int .i64 0) rfl; have c4 := HM9.out.2.1.cell 4 (.int .i64 0) rfl; have c5 := HM9.out.2.1.cell 5 (.int .i64 0) rfl; have c6 := HM9.out.2.1.cell 6 (.int .i64 0) rfl; have c7 := HM9.out.2.1.cell 7 (.int .i64 0) rfl; have c8 := HM9.out.2.1.cell 8 (.int .i64 0) rfl; have c9 := HM9.out.2.1.cell 9 (.int .i64 0) rfl; have c10 := HM9.out.2.1.cell 10 (.int .i64 0) rfl; have c11 := HM9.out.2.1.cell 11 (.int .i64 0) rfl; have cf := HM9.out.2.1.frozen; go_simp; refine hKK.out _ _ (LSu.of (HM9.out.fin.drew) (HoldV.drewu2 (LSu.hold_fin HM9.out.2.2))) ?_; clear hKK KK; try simp only [Act.put, List.setIfInBounds_toArray, List.set_cons_zero, List.set_cons_succ]))
              refine wpLex_nil ?_
              go_wp2_with fail
              exact bodyPost_ret (v := .tuple #[.agg #[.int .i64 A, .int .i64 D, .int .i64 P, .int .i64 sa, .int .i64 sb, .int .i64 sl, .int .i64 sh, .int .i64 da, .int .i64 db, .int .i64 dl, .int .i64 dh, .int .i64 0], .bool false]) (by simp [results, Try.results20, go_sem, c0, c1, c2, c3, c4, c5, c6, c7, c8, c9, c10, c11]) rfl ⟨A, D, P, sa, sb, sl, sh, da, db, dl, dh, 0, by rw [HI.out], HV.out, HM9.out.fin.drew⟩

/-- What is wanted of reading routes. -/
def RdPu (w : World) (L : List Int) (C N : Int) (e : Ending) (w' : World) : Prop := ∃ v, e = .returned (.tuple #[v, .int .i64 C, .int .i64 N]) ∧ OwnI w' w.heap.size 45 12 v (L.length / 12) L ∧ Below w.heap.size w w'
theorem Try.infoRu : (Try.prog.info? 45).map (fun i => (i.zero, i.size, i.bytes)) = some (some (.agg #[.int .i64 0, .int .i64 0, .int .i64 0, .int .i64 0, .int .i64 0, .int .i64 0, .int .i64 0, .int .i64 0, .int .i64 0, .int .i64 0, .int .i64 0, .int .i64 0]), 12, 96) := by kernel_rfl
set_option maxHeartbeats 16000000 in
theorem specReadU_long (l : List UInt8) (w : World) (hl : 20000 < l.length) (hl2 : l.length ≤ 1048576) :
    Calls Try.prog 10 #[.string (bs l)] w fun e w' => RdPu w [] 7 0 e w' := by
  have hsz := bs_size l
  have h1 : (20000 : Int) < ((bs l).size : Int) := by omega
  generalize bs l = s at *
  go_enter Try.func10, Try.ntmps10
  go_wp2_with fail
  exact bodyPost_ret (v := .tuple #[.slice none 0 0, .int .i64 7, .int .i64 0]) (by simp [results, Try.results10, go_sem]) rfl ⟨_, rfl, OwnI.nil _ _ _ _, Below.refl _ _⟩
set_option maxHeartbeats 16000000 in
theorem specReadU_walk (l : List UInt8) (w : World) (hl : l.length ≤ 20000) (X : List Int × Int × Int) (hX : X = rdL ruP 64 ((splitL 10 l).map lineW) 0 [] 0) :
    Calls Try.prog 10 #[.string (bs l)] w fun e w' => RdPu w X.1 X.2.1 X.2.2 e w' := by
  obtain ⟨iR, hi, hz0, hz1, hz2⟩ := info_parts Try.infoRu
  have HI := hide hi
  have HI0 := hide hz0
  have HI1 := hide hz1
  have HI2 := hide hz2
  clear hi hz0 hz1 hz2
  have hsz := bs_size l
  have h1 : ¬ (20000 : Int) < ((bs l).size : Int) := by omega
  have HC := hide (fun W => l08Lines_walk l W hl)
  have HMEM : Hid (∀ ws ∈ (splitL 10 l).map lineW, ∀ p ∈ ws, p.length ≤ 1048576) := hide (fun ws hws p hp => by
    obtain ⟨q, hq, rfl⟩ := List.mem_map.1 hws
    have := lineW_mem hp
    have := splitL_mem 10 l q hq
    omega)
  have HLEN : Hid (((splitL 10 l).map lineW).length ≤ 20001) := hide (by rw [List.length_map]; have := splitL_len 10 l; omega)
  have HPOS : Hid (0 < ((splitL 10 l).map lineW).length) := hide (by rw [List.length_map]; exact splitL_pos 10 l)
  have HX := hide hX
  clear hX hl
  generalize (splitL 10 l).map lineW = Lw at *
  generalize bs l = s at *
  go_enter Try.func10, Try.ntmps10
  go_wp2_with fail
  refine (HC.out w).mono ?_
  rintro e W1 ⟨vl, rfl, hrow, hb1⟩
  obtain ⟨gl, capl, hvl, hgl, _, _, _⟩ := hrow.at HPOS.out
  obtain ⟨N, hN, HN⟩ : ∃ N, Lw.length = N ∧ Hid (Lw.length = N) := ⟨_, rfl, hide rfl⟩
  rw [hN] at hvl
  subst hvl
  have hN2 : N ≤ 20001 := by have := HLEN.out; omega
  have HR0 := hide (hrow.next ((Below.refl _ _).alloc (Nat.le_refl _) (.cells #[] 45)))
  have HB0 := hide (hb1.alloc hb1.size (.cells #[] 45))
  have HO0 : Hid ((W1.alloc (.cells #[] 45)).ownsRow w.heap.size 45 12 (.slice (some ⟨W1.heap.size, 0, none⟩) 0 0) 0 (ival [])) := hide (World.ownsRow_lit (base := w.heap.size) (e := 45) (size := 12) W1 #[] 0 hb1.size (by decide) rfl)
  clear hrow hb1 hgl hN HC
  go_wp2_with fail
  generalize W1.alloc (.cells #[] 45) = W2 at *
  go_loopw [6, 7] (fun o t w2 => ∃ (i n : Nat) (acc : List Int), i ≤ N ∧ n ≤ 64 ∧ t = .int .i64 i ∧ Hid (w2.ownsRow w.heap.size 45 12 o n (ival acc)) ∧ Hid (WRow w2 w.heap.size (.slice (some ⟨gl, 0, none⟩) N capl) Lw) ∧ Hid (Below w.heap.size w w2) ∧ Hid (X = rdL ruP 64 (Lw.drop i) n acc i)) (fun _ t _ => N - (intOf t).toNat)
  case atStart => exact ⟨0, 0, [], Nat.zero_le _, Nat.zero_le _, rfl, HO0, HR0, HB0, HX⟩
  case round =>
    obtain ⟨i, n, acc, hi, hn, rfl, HO, HR, HB, HE⟩ := hrel
    clear HO0 HR0 HB0 HX
    obtain ⟨ao, co, rfl⟩ := row_form HO.out
    by_cases hlt : i < N
    · obtain ⟨ws, hws⟩ : ∃ ws, Lw[i]? = some ws := ⟨_, List.getElem?_eq_getElem (by have := HN.out; omega)⟩
      have HST := hide (rdL_at (parse := ruP) (most := 64) (n := n) (acc := acc) hws)
      obtain ⟨gl', capl', hvl, hgl, _, _, hcells⟩ := HR.out.at HPOS.out
      simp only [Value.slice.injEq, Option.some.injEq, Addr.mk.injEq, and_true] at hvl
      obtain ⟨hgg, -, hcc⟩ := hvl
      subst hgg hcc
      obtain ⟨aw, m, cw, hcell, hm, how⟩ := hcells i ws hws
      have HWM := hide (HMEM.out ws (List.mem_of_getElem? hws))
      clear hcells hws
      cases ws with
      | nil =>
        have hm0 : m = 0 := hm
        subst hm0
        have HE2 : Hid (X = rdL ruP 64 (Lw.drop (i + 1)) n acc (i + 1)) := hide (by rw [HE.out, HST.out]; rfl)
        clear how hm hgl
        go_wp2_with fail
        exact ⟨⟨i + 1, n, acc, by omega, hn, by go_num, HO, HR, HB, HE2⟩, by simp [intOf]; omega⟩
      | cons p r =>
        obtain ⟨gw, haw, harr, hmc⟩ := how.arrS (by simp)
        subst haw
        have hm1 : 0 < m := by rw [hm]; simp
        have hmz : ((m : Int) == 0) = false := by simp; omega
        have HE1 : Hid (X = match ruP (p :: r) with
          | none => ([], 19, ((i + 1 : Nat) : Int))
          | some zs => if 64 ≤ n then ([], 8, ((i + 1 : Nat) : Int)) else rdL ruP 64 (Lw.drop (i + 1)) (n + 1) (acc ++ zs) (i + 1)) := hide (by rw [HE.out, HST.out]; rfl)
        have CR := hide (specRule_walk p r gw 0 m cw wr hm.symm harr hmc HWM.out)
        clear hm how harr HE HST HWM hgl
        go_wp2_with fail
        refine CR.out.mono ?_
        rintro e w1 ⟨r0, r1, r2, r3, r4, r5, r6, r7, r8, r9, r10, r11, rfl, hv, hb1⟩
        have HO1 := hide (row_kept HO.out (fun b eb => hb1.block b (row_lt HO.out eb).2))
        have HR1 := hide (HR.out.next hb1)
        have HB1 := hide (HB.out.trans (hb1.mono HB.out.size))
        clear hb1 CR hcell
        cases hp : ruP (p :: r) with
        | none =>
          have HX1 : Hid (X = ([], 19, ((i + 1 : Nat) : Int))) := hide (by rw [HE1.out]; rw [hp])
          have HB2 := hide (HB1.out.alloc HB1.out.size (.cells #[.int .i64 r0, .int .i64 r1, .int .i64 r2, .int .i64 r3, .int .i64 r4, .int .i64 r5, .int .i64 r6, .int .i64 r7, .int .i64 r8, .int .i64 r9, .int .i64 r10, .int .i64 r11] 45))
          clear hv hp
          go_wp2_with fail
          exact bodyPost_ret (v := .tuple #[.slice none 0 0, .int .i64 19, .int .i64 ((i : Int) + 1)]) (by simp [results, Try.results10, go_sem]) rfl (by rw [HX1.out]; exact ⟨_, rfl, (by simpa using OwnI.nil _ w.heap.size 45 12), HB2.out⟩)
        | some v =>
          have hve := hv v hp
          subst hve
          have HX1 : Hid (X = if 64 ≤ n then ([], 8, ((i + 1 : Nat) : Int)) else rdL ruP 64 (Lw.drop (i + 1)) (n + 1) (acc ++ [r0, r1, r2, r3, r4, r5, r6, r7, r8, r9, r10, r11]) (i + 1)) := hide (by rw [HE1.out]; rw [hp])
          clear hv hp HE1
          have HB2 := hide (HB1.out.alloc HB1.out.size (.cells #[.int .i64 r0, .int .i64 r1, .int .i64 r2, .int .i64 r3, .int .i64 r4, .int .i64 r5, .int .i64 r6, .int .i64 r7, .int .i64 r8, .int .i64 r9, .int .i64 r10, .int .i64 r11] 45))
          by_cases h64 : 64 ≤ n
          · have h64i : (64 : Int) ≤ (n : Int) := by omega
            have HX2 : Hid (X = ([], 8, ((i + 1 : Nat) : Int))) := hide (by rw [HX1.out, if_pos h64])
            go_wp2_with fail
            exact bodyPost_ret (v := .tuple #[.slice none 0 0, .int .i64 8, .int .i64 ((i : Int) + 1)]) (by simp [results, Try.results10, go_sem]) rfl (by rw [HX2.out]; exact ⟨_, rfl, (by simpa using OwnI.nil _ w.heap.size 45 12), HB2.out⟩)
          · have h64i : ¬ (64 : Int) ≤ (n : Int) := by omega
            have HX2 : Hid (X = rdL ruP 64 (Lw.drop (i + 1)) (n + 1) (acc ++ [r0, r1, r2, r3, r4, r5, r6, r7, r8, r9, r10, r11]) (i + 1)) := hide (by rw [HX1.out, if_neg h64])
            have hbx := (Below.refl w1.heap.size w1).alloc (Nat.le_refl _) (.cells #[.int .i64 r0, .int .i64 r1, .int .i64 r2, .int .i64 r3, .int .i64 r4, .int .i64 r5, .int .i64 r6, .int .i64 r7, .int .i64 r8, .int .i64 r9, .int .i64 r10, .int .i64 r11] 45)
            have HH := hide (show HoldV (w1.alloc (.cells #[.int .i64 r0, .int .i64 r1, .int .i64 r2, .int .i64 r3, .int .i64 r4, .int .i64 r5, .int .i64 r6, .int .i64 r7, .int .i64 r8, .int .i64 r9, .int .i64 r10, .int .i64 r11] 45)) w1.heap.size #[.int .i64 r0, .int .i64 r1, .int .i64 r2, .int .i64 r3, .int .i64 r4, .int .i64 r5, .int .i64 r6, .int .i64 r7, .int .i64 r8, .int .i64 r9, .int .i64 r10, .int .i64 r11] 45 from heap_alloc_new _ _)
            have HO2 := hide (row_kept HO1.out (fun b eb => hbx.block b (row_lt HO1.out eb).2))
            have HR2 := hide (HR1.out.next hbx)
            clear hbx HX1 HO1 HR1 HB1
            have q0 := HH.out.cell 0 _ rfl
            have q1 := HH.out.cell 1 _ rfl
            have q2 := HH.out.cell 2 _ rfl
            have q3 := HH.out.cell 3 _ rfl
            have q4 := HH.out.cell 4 _ rfl
            have q5 := HH.out.cell 5 _ rfl
            have q6 := HH.out.cell 6 _ rfl
            have q7 := HH.out.cell 7 _ rfl
            have q8 := HH.out.cell 8 _ rfl
            have q9 := HH.out.cell 9 _ rfl
            have q10 := HH.out.cell 10 _ rfl
            have q11 := HH.out.cell 11 _ rfl
            have sz1 := World.size_alloc w1 (.cells #[.int .i64 r0, .int .i64 r1, .int .i64 r2, .int .i64 r3, .int .i64 r4, .int .i64 r5, .int .i64 r6, .int .i64 r7, .int .i64 r8, .int .i64 r9, .int .i64 r10, .int .i64 r11] 45)
            have hb3 := (Below.refl (w1.alloc (.cells #[.int .i64 r0, .int .i64 r1, .int .i64 r2, .int .i64 r3, .int .i64 r4, .int .i64 r5, .int .i64 r6, .int .i64 r7, .int .i64 r8, .int .i64 r9, .int .i64 r10, .int .i64 r11] 45)).heap.size (w1.alloc (.cells #[.int .i64 r0, .int .i64 r1, .int .i64 r2, .int .i64 r3, .int .i64 r4, .int .i64 r5, .int .i64 r6, .int .i64 r7, .int .i64 r8, .int .i64 r9, .int .i64 r10, .int .i64 r11] 45))).alloc (Nat.le_refl _) (.cells #[.int .i64 r0, .int .i64 r1, .int .i64 r2, .int .i64 r3, .int .i64 r4, .int .i64 r5, .int .i64 r6, .int .i64 r7, .int .i64 r8, .int .i64 r9, .int .i64 r10, .int .i64 r11] 45)
            have HO3 := hide (row_kept HO2.out (fun b eb => hb3.block b (row_lt HO2.out eb).2))
            have HR3 := hide (HR2.out.next hb3)
            have HB3 := hide (HB2.out.trans (hb3.mono HB2.out.size))
            have HFC := hide (by have h := twelve_cells (w1.alloc (.cells #[.int .i64 r0, .int .i64 r1, .int .i64 r2, .int .i64 r3, .int .i64 r4, .int .i64 r5, .int .i64 r6, .int .i64 r7, .int .i64 r8, .int .i64 r9, .int .i64 r10, .int .i64 r11] 45)) r0 r1 r2 r3 r4 r5 r6 r7 r8 r9 r10 r11 45; rw [sz1] at h; exact h)
            clear hb3 HO2 HR2 HB2 sz1
            go_wp2_with (first | (at_builtin; refine wpList_append_own _ rfl _ _ 28 rfl w.heap.size 45 iR _ 12 96 Try.underlying28 HI.out HI0.out HI1.out HI2.out rfl (by decide) (.slice ao n co) _ _ rfl HO3.out ⟨w1.heap.size + 1, 0, none⟩ 1 1 (ival [r0, r1, r2, r3, r4, r5, r6, r7, r8, r9, r10, r11]) rfl rfl HFC.out (ival_one _) (by unfold maxLen; omega) (by omega) HB3.out.size ?_; intro v4 w4 hown hgrow hnil; have HO4 : Hid (w4.ownsRow w.heap.size 45 12 v4 (n + 1) (ival (acc ++ [r0, r1, r2, r3, r4, r5, r6, r7, r8, r9, r10, r11]))) := hide (by rw [ival_app]; exact hown); have HR4 := hide (HR3.out.keepTy HO3.out (by decide) (by decide) hgrow); have HB4 := hide (below_row HB3.out HO3.out (Nat.le_refl _) HB3.out.size hgrow); clear hown hgrow hnil))
            exact ⟨⟨i + 1, n + 1, _, by omega, by omega, by go_num, HO4, HR4, HB4, HX2⟩, by simp [intOf]; omega⟩
    · have hin : i = N := by omega
      have HX1 : Hid (X = (acc, 0, 0)) := hide (by rw [HE.out, rdL_end (by have := HN.out; omega)])
      have HL : Hid (acc.length / 12 = n) := hide (by have h := HO.out.1; rw [ival_len] at h; omega)
      subst hin
      go_wp2_with fail
      exact bodyPost_ret (v := .tuple #[.slice ao n co, .int .i64 0, .int .i64 0]) (by simp [results, Try.results10, go_sem]) rfl (by
        rw [HX1.out]
        refine ⟨_, rfl, ?_, HB.out⟩
        rw [HL.out]
        exact ownsAt.of_row HO.out)
end Go.Proofs.Ytgegnkboibgbgaa
