/-
Contracts of functions of this seat.
-/
import Derived.Test.YtcnfnimgpiaamaaDoorRows
import Derived.WalkKit
import Derived.ProofKit
import Derived.OpenShut
import Derived.Test.YtcnfnimgpiaamaaDoorGds
import Derived.Lib.MinMax
import Derived.WalkMore
namespace Go.Proofs.YtcnfnimgpiaamaaDoor
open Go.ChangeShapes Go.WideShapes Go.ChangeAt Go.RowKit
set_option linter.unusedVariables false
set_option maxRecDepth 100000
/-- takeOptions under way. -/
def ToS (g X B n cap : Nat) (a : Option Addr) (x0 x1 x2 x3 x4 x5 : Int) (d : Value) (w W : World) (q : Nat) (ev : Value) (st : OSt) (v : Value) (r : Nat) : Prop :=
  Only [g, X] w W ∧ Cur W g (.slice a n cap) q ev ∧ HoldV W X #[.int .i64 x0, .int .i64 x1, .int .i64 x2, .int .i64 x3, .int .i64 x4, .int .i64 x5, .int .i64 st.m, .bool st.hs, .int .i64 st.sc, .bool st.so, v, d] sgT ∧ OwnI W B 53 2 v r st.L
/-- What is left to be done. -/
def toM (g n : Nat) (W : World) : Nat := match W.cell? ⟨g, 2, none⟩, W.cell? ⟨g, 1, none⟩ with
  | some .nilIface, some (.int _ q) => n + 1 - q.toNat
  | _, _ => 0
theorem toM_ok {g n q : Nat} {W : World} {bv : Value} (h : Cur W g bv q .nilIface) : toM g n W = n + 1 - q := by
  obtain ⟨c0, c1, c2, cf⟩ := h.cells
  simp [toM, c1, c2]
theorem toM_err {g n q : Nat} {W : World} {bv : Value} {c : Int} (h : Cur W g bv q (wErr c)) : toM g n W = 0 := by
  obtain ⟨c0, c1, c2, cf⟩ := h.cells
  simp [toM, c1, c2, wErr]
section
variable {g X B n cap : Nat} {a : Option Addr} {x0 x1 x2 x3 x4 x5 : Int} {d : Value} {w W W' : World} {q q' : Nat} {ev ev' : Value} {st : OSt} {v : Value} {r : Nat}
theorem ToS.moved (h : ToS g X B n cap a x0 x1 x2 x3 x4 x5 d w W q ev st v r) (hgX : g ≠ X) (hg : W.grownBy W' (some g)) (hc : Cur W' g (.slice a n cap) q' ev') : ToS g X B n cap a x0 x1 x2 x3 x4 x5 d w W' q' ev' st v r :=
  ⟨h.1.trans ((Only.of_some hg).mono (by simp)), hc, h.2.2.1.kept hg (by intro e; injection e with e; exact hgX e.symm), h.2.2.2.gr (b := g) (T := 69) (vs := #[.slice a n cap, .int .i64 (q : Int), ev]) h.2.1 (by decide) hg⟩
theorem ToS.next (h : ToS g X B n cap a x0 x1 x2 x3 x4 x5 d w W q ev st v r) (hb : Below W.heap.size W W') : ToS g X B n cap a x0 x1 x2 x3 x4 x5 d w W' q ev st v r :=
  ⟨h.1.trans (Only.of_below hb), h.2.1.below hb h.2.1.lt, h.2.2.1.next hb, h.2.2.2.next hb⟩
theorem ToS.put (h : ToS g X B n cap a x0 x1 x2 x3 x4 x5 d w W q ev st v r) (hgX : g ≠ X) (i : Nat) (y : Value) {st' : OSt} {v' : Value} {r' : Nat}
    (hx : HoldV (W.setCell ⟨X, i, none⟩ y) X #[.int .i64 x0, .int .i64 x1, .int .i64 x2, .int .i64 x3, .int .i64 x4, .int .i64 x5, .int .i64 st'.m, .bool st'.hs, .int .i64 st'.sc, .bool st'.so, v', d] sgT) (ho : OwnI W B 53 2 v' r' st'.L) : ToS g X B n cap a x0 x1 x2 x3 x4 x5 d w (W.setCell ⟨X, i, none⟩ y) q ev st' v' r' :=
  ⟨h.1.trans ((Only.of_some (grown_cell W X i y)).mono (by simp)), h.2.1.kept (grown_cell W X i y) (by intro e; injection e with e; exact hgX e), hx, ho.gr h.2.2.1 (by decide) (grown_cell W X i y)⟩
theorem ToS.mss (h : ToS g X B n cap a x0 x1 x2 x3 x4 x5 d w W q ev st v r) (hgX : g ≠ X) (y : Int) : ToS g X B n cap a x0 x1 x2 x3 x4 x5 d w (W.setCell ⟨X, 6, none⟩ (.int .i64 y)) q ev { st with m := y } v r :=
  h.put hgX 6 _ (by have k := h.2.2.1.set 6 (.int .i64 y); simp only [List.setIfInBounds_toArray, List.set_cons_zero, List.set_cons_succ] at k; exact k) h.2.2.2
theorem ToS.hs1 (h : ToS g X B n cap a x0 x1 x2 x3 x4 x5 d w W q ev st v r) (hgX : g ≠ X) : ToS g X B n cap a x0 x1 x2 x3 x4 x5 d w (W.setCell ⟨X, 7, none⟩ (.bool true)) q ev { st with hs := true } v r :=
  h.put hgX 7 _ (by have k := h.2.2.1.set 7 (.bool true); simp only [List.setIfInBounds_toArray, List.set_cons_zero, List.set_cons_succ] at k; exact k) h.2.2.2
theorem ToS.sc1 (h : ToS g X B n cap a x0 x1 x2 x3 x4 x5 d w W q ev st v r) (hgX : g ≠ X) (y : Int) : ToS g X B n cap a x0 x1 x2 x3 x4 x5 d w (W.setCell ⟨X, 8, none⟩ (.int .i64 y)) q ev { st with sc := y } v r :=
  h.put hgX 8 _ (by have k := h.2.2.1.set 8 (.int .i64 y); simp only [List.setIfInBounds_toArray, List.set_cons_zero, List.set_cons_succ] at k; exact k) h.2.2.2
theorem ToS.so1 (h : ToS g X B n cap a x0 x1 x2 x3 x4 x5 d w W q ev st v r) (hgX : g ≠ X) : ToS g X B n cap a x0 x1 x2 x3 x4 x5 d w (W.setCell ⟨X, 9, none⟩ (.bool true)) q ev { st with so := true } v r :=
  h.put hgX 9 _ (by have k := h.2.2.1.set 9 (.bool true); simp only [List.setIfInBounds_toArray, List.set_cons_zero, List.set_cons_succ] at k; exact k) h.2.2.2
theorem ToS.sks (h : ToS g X B n cap a x0 x1 x2 x3 x4 x5 d w W q ev st v r) (hgX : g ≠ X) (v' : Value) (r' : Nat) (L' : List Int) (ho : OwnI W B 53 2 v' r' L') : ToS g X B n cap a x0 x1 x2 x3 x4 x5 d w (W.setCell ⟨X, 10, none⟩ v') q ev { st with L := L' } v' r' :=
  h.put hgX 10 _ (by have k := h.2.2.1.set 10 v'; simp only [List.setIfInBounds_toArray, List.set_cons_zero, List.set_cons_succ] at k; exact k) ho
end
/-- What lies behind an option's length, whether it is there or not. -/
theorem tvr_uni {g p n cap b off : Nat} {L zs : List Int} {w w' : World} {e : Ending} (h : TvR g p n cap b off L zs w e w') (hz : zs.length = n) (ha : Arr w (some ⟨b, off, none⟩) zs) (hb : b ≠ g) :
    ∃ (a' : Option Addr) (k c' q' : Nat) (ev : Value), e = .returned (.slice a' k c') ∧ k ≤ c' ∧ Cur w' g (.slice (some ⟨b, off, none⟩) n cap) q' ev ∧ w.grownBy w' (some g) ∧ Arr w' a' ((zs.drop (p + 1)).take k) ∧ ((zs.drop (p + 1)).take k).length = k ∧ q' ≤ n ∧
      ((TvBad p n L zs ∧ k = 0 ∧ a' = none ∧ c' = 0 ∧ ∃ c, ev = wErr c) ∨ (¬ TvBad p n L zs ∧ zs.getD p 0 = (k : Int) + 2 ∧ p + 1 + k ≤ n ∧ q' = p + 1 + k ∧ ev = .nilIface)) := by
  rcases h with ⟨hb1, rfl, c, p', hp', hc, hg⟩ | ⟨a', k, c', hb1, rfl, hy, hk, hkc, haa, hc, hg⟩
  · exact ⟨none, 0, 0, p', wErr c, rfl, Nat.le_refl _, hc, hg, by rw [List.take_zero]; exact ⟨by simp, fun j hj => by simp at hj⟩, by simp, hp', .inl ⟨hb1, rfl, rfl, rfl, c, rfl⟩⟩
  · refine ⟨a', k, c', p + 1 + k, .nilIface, rfl, hkc, hc, hg, ?_, by rw [List.length_take, List.length_drop]; omega, hk, .inr ⟨hb1, hy, hk, rfl, rfl⟩⟩
    by_cases h0 : 0 < k
    · rw [haa h0]; exact ((ha.aside hg hb).drop (p + 1)).take k
    · rw [show k = 0 by omega, List.take_zero]; exact ⟨by simp, fun j hj => by simp at hj⟩
theorem arrI_one (W : World) (y : Int) (t : Nat) : ArrI (W.alloc (.cells #[.int .i64 y] t)) (some ⟨W.heap.size, 0, none⟩) [y] := by
  intro j hj
  obtain rfl : j = 0 := by simpa using hj
  have h : HoldV (W.alloc (.cells #[.int .i64 y] t)) W.heap.size #[.int .i64 y] t := heap_alloc_new _ _
  exact ⟨W.heap.size, 0, rfl, by rw [World.size_alloc]; omega, h.cell 0 _ rfl⟩
theorem arrI_four (W : World) (y0 y1 y2 y3 : Int) (t : Nat) : ArrI (W.alloc (.cells #[.int .i64 y0, .int .i64 y1, .int .i64 y2, .int .i64 y3] t)) (some ⟨W.heap.size, 0, none⟩) [y0, y1, y2, y3] := by
  intro j hj
  have h : HoldV (W.alloc (.cells #[.int .i64 y0, .int .i64 y1, .int .i64 y2, .int .i64 y3] t)) W.heap.size #[.int .i64 y0, .int .i64 y1, .int .i64 y2, .int .i64 y3] t := heap_alloc_new _ _
  refine ⟨W.heap.size, 0, rfl, by rw [World.size_alloc]; omega, ?_⟩
  match j, hj with
  | 0, _ => exact h.cell 0 _ rfl
  | 1, _ => exact h.cell 1 _ rfl
  | 2, _ => exact h.cell 2 _ rfl
  | 3, _ => exact h.cell 3 _ rfl
theorem min14 (y : Int) : min y 14 = if 14 < y then 14 else y := by rw [Int.min_def]; split <;> split <;> omega
theorem arrI_no (W : World) : ArrI W none [] := fun j hj => by simp at hj
/-- firstStretches of the program: of nothing, or of 8, 16, 24 or 32 bytes. -/
theorem firstS_any (a : Option Addr) (k c : Nat) (zs : List Int) (w : World) (hk : zs.length = k) (hkc : k ≤ c) (ha : Arr w a zs) (h : (k = 0 ∧ a = none ∧ c = 0) ∨ (k : Int) ∈ ([8, 16, 24, 32] : List Int)) :
    Calls Tryd.prog 90 #[.slice a k c] w fun e w' => ∃ a' c', e = .returned (.slice a' (min 3 (k / 8)) c') ∧ OwnI w' w.heap.size 53 2 (.slice a' (min 3 (k / 8)) c') (min 3 (k / 8)) (skL zs (min 3 (k / 8))) ∧ Below w.heap.size w w' := by
  rcases h with ⟨rfl, rfl, rfl⟩ | h
  · refine (firstS_none w).mono ?_
    rintro e w' ⟨rfl, hb⟩
    exact ⟨none, 0, rfl, OwnI.nil _ _ _ _, hb⟩
  · simp only [List.mem_cons, List.not_mem_nil, or_false] at h
    obtain ⟨b, off, rfl, _⟩ := ha.2 0 (by omega)
    refine (firstS_walk b off k c (k / 8) zs w hk (by omega) (by omega) (by omega) hkc ha).mono ?_
    rintro e w' ⟨a', c', rfl, ho, hb⟩
    exact ⟨a', c', rfl, OwnI.mono (ownsAt.of_row ho) (Nat.le_succ _), hb⟩
/-- What takeOptions leaves. -/
def ToP (g X B n cap : Nat) (a : Option Addr) (x0 x1 x2 x3 x4 x5 : Int) (d : Value) (zs : List Int) (st0 : OSt) (w : World) (e : Ending) (w' : World) : Prop :=
  e = .returned (.tuple #[]) ∧ ∃ (q : Nat) (ev : Value) (st : OSt) (v : Value) (r : Nat), ToS g X B n cap a x0 x1 x2 x3 x4 x5 d w w' q ev st v r ∧ ((rdO zs st0 = some st ∧ ev = .nilIface) ∨ (rdO zs st0 = none ∧ ∃ c, ev = wErr c))
set_option maxHeartbeats 8000000 in
theorem takeOpts_walk (g X B n cap : Nat) (a : Option Addr) (zs : List Int) (x0 x1 x2 x3 x4 x5 : Int) (st0 : OSt) (v0 d : Value) (r0 : Nat) (w : World) (hc : Cur w g (.slice a n cap) 0 .nilIface) (hX : HoldV w X #[.int .i64 x0, .int .i64 x1, .int .i64 x2, .int .i64 x3, .int .i64 x4, .int .i64 x5, .int .i64 st0.m, .bool st0.hs, .int .i64 st0.sc, .bool st0.so, v0, d] sgT) (hO : OwnI w B 53 2 v0 r0 st0.L) (hB : B ≤ w.heap.size)
    (hn : zs.length = n) (hm : n ≤ 1048576) (hcap : n ≤ cap) (ha : Arr w a zs) (hgX : g ≠ X) (hag : 0 < n → ∀ b off, a = some ⟨b, off, none⟩ → b ≠ g ∧ b ≠ X) :
    Calls Tryd.prog 46 #[.pointer (some ⟨X, 0, none⟩), .pointer (some ⟨g, 0, none⟩)] w (ToP g X B n cap a x0 x1 x2 x3 x4 x5 d zs st0 w) := by
  have HS0 : Hid (ToS g X B n cap a x0 x1 x2 x3 x4 x5 d w w 0 .nilIface st0 v0 r0) := hide ⟨Only.refl _ _, hc, hX, hO⟩
  have HA := hide ha
  have HN := hide hn
  have HAG := hide hag
  clear hc hX hO ha hn hag
  go_enter Tryd.func46, Tryd.ntmps46
  go_wp2_with fail
  go_step3
  go_wp2_with fail
  go_step3
  go_wp2_with fail
  go_loopw [] (fun W => ∃ (q : Nat) (ev : Value) (st : OSt) (v : Value) (r : Nat), q ≤ n ∧ Hid (ToS g X B n cap a x0 x1 x2 x3 x4 x5 d w W q ev st v r) ∧ ((ev = .nilIface ∧ Hid (rdO (zs.drop q) st = rdO zs st0)) ∨ (∃ c, ev = wErr c ∧ Hid (rdO zs st0 = none)))) (fun W => toM g n W)
  case atStart => exact ⟨0, .nilIface, st0, v0, r0, Nat.zero_le _, HS0, .inl ⟨rfl, hide rfl⟩⟩
  case round =>
    obtain ⟨q, ev, st, v, r, hq, HS, hcase⟩ := hrel
    clear HS0
    rename World => W1
    rcases hcase with ⟨rfl, HR⟩ | ⟨c, rfl, HR⟩
    · have hBW : B ≤ W1.heap.size := Nat.le_trans hB HS.out.1.size
      by_cases hqn : q = n
      · subst hqn
        have CK := hide (takeKind_over g q cap a W1 HS.out.2.1 hm)
        have HE := hide (HR.out.symm.trans (rdq_end (.inl (by rw [HN.out]; exact Nat.le_refl _))))
        obtain ⟨d0, d1, d2, df⟩ := HS.out.2.1.cells
        go_wp2_with fail
        refine CK.out.mono ?_
        rintro e w2 ⟨rfl, m, rfl⟩
        have HS2 := hide (HS.out.next (below_drewN (Below.refl _ _) m))
        clear HS CK d0 d1 d2 df
        generalize W1.drewN m = W2 at *
        go_wp2_with fail
        go_end0
        exact ⟨rfl, q, _, st, v, r, HS2.out, .inl ⟨HE.out, rfl⟩⟩
      · have hlt : q < n := by omega
        obtain ⟨b, off, rfl, hbw, _⟩ := HA.out.2 0 (by rw [HN.out]; omega)
        have hbg := (HAG.out (by omega) b off rfl).1
        have hbX := (HAG.out (by omega) b off rfl).2
        have HA1 := hide (arr_only HA.out HS.out.1 (fun j _ => ⟨b, off, rfl, by simp [hbg, hbX]⟩))
        have ck := takeKind_some g q n cap b off zs W1 HS.out.2.1 hm hlt hcap HN.out HA1.out hbg
        rw [tnum_atq zs q (by rw [HN.out]; exact hlt)] at ck
        have CK := hide ck
        clear ck
        have hqz : q < zs.length := by rw [HN.out]; exact hlt
        by_cases h0 : zs.getD q 0 = 0
        · rw [h0] at CK
          have HE := hide (HR.out.symm.trans (rdq_end (.inr h0)))
          obtain ⟨d0, d1, d2, df⟩ := HS.out.2.1.cells
          go_wp2_with fail
          refine CK.out.mono ?_
          rintro e w2 ⟨rfl, hc2, hg2⟩
          have HS2 := hide (HS.out.moved hgX hg2 hc2)
          have HA2 := hide (HA1.out.aside hg2 hbg)
          have hs2 : B ≤ w2.heap.size := Nat.le_trans hBW hg2.size
          clear hc2 hg2 HS CK HA1 d0 d1 d2 df
          go_wp2_with fail
          refine (left_walk g (q + 1) n cap _ .nilIface w2 HS2.out.2.1 (by omega) (by omega)).mono ?_
          rintro e w3 ⟨rfl, m, rfl⟩
          have HS3 := hide (HS2.out.next (below_drewN (Below.refl _ _) m))
          clear HS2
          generalize w2.drewN m = w3 at *
          rw [show ((n : Int) - ((q + 1 : Nat) : Int)) = ((n - (q + 1) : Nat) : Int) by omega]
          by_cases hpc : q + 1 < cap
          · go_wp2_with fail
            refine (pass_ok g (q + 1) n cap b off (n - (q + 1)) w3 HS3.out.2.1 (by omega) (by omega) hpc hcap).mono ?_
            rintro e w4 ⟨rfl, hc4, hg4⟩
            have HS4 := hide (HS3.out.moved hgX hg4 hc4)
            clear hc4 hg4 HS3
            go_wp2_with fail
            go_end0
            exact ⟨rfl, _, _, st, v, r, HS4.out, .inl ⟨HE.out, rfl⟩⟩
          · rw [show n - (q + 1) = 0 by omega]
            go_wp2_with fail
            refine (pass_zero g (q + 1) n cap b off w3 HS3.out.2.1 (by omega) (by omega) hcap).mono ?_
            rintro e w4 ⟨a', rfl, hc4, hg4⟩
            have HS4 := hide (HS3.out.moved hgX hg4 hc4)
            clear hc4 hg4 HS3
            go_wp2_with fail
            go_end0
            exact ⟨rfl, _, _, st, v, r, HS4.out, .inl ⟨HE.out, rfl⟩⟩
        by_cases h1 : zs.getD q 0 = 1
        · rw [h1] at CK
          have HM := hide (toM_ok (n := n) HS.out.2.1)
          obtain ⟨d0, d1, d2, df⟩ := HS.out.2.1.cells
          go_wp2_with fail
          refine CK.out.mono ?_
          rintro e w2 ⟨rfl, hc2, hg2⟩
          have HS2 := hide (HS.out.moved hgX hg2 hc2)
          have HA2 := hide (HA1.out.aside hg2 hbg)
          have hs2 : B ≤ w2.heap.size := Nat.le_trans hBW hg2.size
          clear hc2 hg2 HS CK HA1 d0 d1 d2 df
          go_wp2_with fail
          exact ⟨⟨q + 1, .nilIface, st, v, r, by omega, HS2, .inl ⟨rfl, hide ((rdq_pad hqz h1).symm.trans HR.out)⟩⟩, by rw [toM_ok HS2.out.2.1, HM.out]; omega⟩
        by_cases h2 : zs.getD q 0 = 2
        · rw [h2] at CK
          have HM := hide (toM_ok (n := n) HS.out.2.1)
          obtain ⟨d0, d1, d2, df⟩ := HS.out.2.1.cells
          go_wp2_with fail
          refine CK.out.mono ?_
          rintro e w2 ⟨rfl, hc2, hg2⟩
          have HS2 := hide (HS.out.moved hgX hg2 hc2)
          have HA2 := hide (HA1.out.aside hg2 hbg)
          have hs2 : B ≤ w2.heap.size := Nat.le_trans hBW hg2.size
          clear hc2 hg2 HS CK HA1 d0 d1 d2 df
          go_wp2_with fail
          have HI : Hid (ArrI (w2.alloc (.cells #[.int .i64 2] 3)) (some ⟨w2.heap.size, 0, none⟩) [2]) := hide (arrI_one w2 2 _)
          have HS3 := hide (HS2.out.next ((Below.refl _ _).alloc (Nat.le_refl _) (.cells #[.int .i64 2] 3)))
          have HA3 := hide (HA2.out.below ((Below.refl w2.heap.size w2).alloc (Nat.le_refl _) (.cells #[.int .i64 2] 3)) (Nat.le_refl _))
          have hgl : g ≠ w2.heap.size := Nat.ne_of_lt HS2.out.2.1.lt
          have hs3 : B ≤ (w2.alloc (.cells #[.int .i64 2] 3)).heap.size := by rw [World.size_alloc]; omega
          clear HS2 HA2
          have CV := hide (takeV_any g (q + 1) n cap b off 1 1 (some ⟨w2.heap.size, 0, none⟩) [2] zs _ HS3.out.2.1 hm hcap HN.out HA3.out hbg HI.out rfl (by omega) (by intro b' off' e; cases e; exact hgl.symm) (by omega))
          generalize w2.alloc (.cells #[.int .i64 2] 3) = w3 at *
          clear HI
          refine CV.out.mono ?_
          intro e w4 hv
          obtain ⟨a', k, c', q', ev, rfl, hkc, hc4, hg4, ha4, hl4, hq4, hcs⟩ := tvr_uni hv HN.out HA3.out hbg
          have HS4 := hide (HS3.out.moved hgX hg4 hc4)
          have HA4 := hide ha4
          have HL4 := hide hl4
          have HCS := hide hcs
          have hs4 : B ≤ w4.heap.size := Nat.le_trans hs3 hg4.size
          clear hv CV HS3 HA3 hc4 hg4 ha4 hl4 hcs
          have hk6 : k ≤ 6 := by
            rcases HCS.out with ⟨_, h, _⟩ | ⟨hg, hy, _⟩
            · omega
            · have := tv_in hg hy (by simp); simp only [List.mem_cons, List.not_mem_nil, or_false] at this; omega
          go_wp2_with fail
          refine (takeNumber_walk a' k c' _ w4 HL4.out HA4.out hk6).mono ?_
          rintro e w5 ⟨rfl, rfl⟩
          have k6 := HS4.out.2.2.1.cell 6 _ rfl
          have kf := HS4.out.2.2.1.frozen
          generalize hy9 : tnum ((zs.drop (q + 1 + 1)).take k) = y9 at *
          have HS5 := hide (HS4.out.mss hgX y9)
          clear HS4 HA4 HL4
          go_wp2_with fail
          rcases HCS.out with ⟨hbad, h5, h6, h7, c, rfl⟩ | ⟨hgood, hy, hk, rfl, rfl⟩
          · exact ⟨⟨q', _, _, _, _, hq4, HS5, .inr ⟨c, rfl, hide (HR.out.symm.trans (rdq_bad HN.out hlt (by omega) (by omega) (by rw [h2, show optL 2 = [2] from rfl]; exact hbad)))⟩⟩, by rw [toM_err HS5.out.2.1, HM.out]; omega⟩
          · have h2k := tv_in hgood hy (by simp)
            simp only [List.mem_cons, List.not_mem_nil, or_false] at h2k
            obtain rfl : k = 2 := by omega
            exact ⟨⟨_, _, _, _, _, hq4, HS5, .inl ⟨rfl, hide (by rw [← HR.out, rdq_mss hqz h2 hy (by rw [HN.out]; omega), ← hy9])⟩⟩, by rw [toM_ok HS5.out.2.1, HM.out]; omega⟩
        by_cases h3 : zs.getD q 0 = 3
        · rw [h3] at CK
          have HM := hide (toM_ok (n := n) HS.out.2.1)
          obtain ⟨d0, d1, d2, df⟩ := HS.out.2.1.cells
          go_wp2_with fail
          refine CK.out.mono ?_
          rintro e w2 ⟨rfl, hc2, hg2⟩
          have HS2 := hide (HS.out.moved hgX hg2 hc2)
          have HA2 := hide (HA1.out.aside hg2 hbg)
          have hs2 : B ≤ w2.heap.size := Nat.le_trans hBW hg2.size
          clear hc2 hg2 HS CK HA1 d0 d1 d2 df
          have k7 := HS2.out.2.2.1.cell 7 _ rfl
          have kf := HS2.out.2.2.1.frozen
          have HS2b := hide (HS2.out.hs1 hgX)
          have HA2b := hide (HA2.out.aside (grown_cell w2 X 7 (.bool true)) hbX)
          have hs2b : B ≤ (w2.setCell ⟨X, 7, none⟩ (.bool true)).heap.size := by simpa using hs2
          go_upto_region 12 with fail
          clear HS2 HA2 hs2 k7 kf
          generalize w2.setCell ⟨X, 7, none⟩ (.bool true) = w2 at *
          have HS2 := HS2b
          have HA2 := HA2b
          have hs2 := hs2b
          clear HS2b HA2b hs2b
          go_wp2_with fail
          have HI : Hid (ArrI (w2.alloc (.cells #[.int .i64 1] 3)) (some ⟨w2.heap.size, 0, none⟩) [1]) := hide (arrI_one w2 1 _)
          have HS3 := hide (HS2.out.next ((Below.refl _ _).alloc (Nat.le_refl _) (.cells #[.int .i64 1] 3)))
          have HA3 := hide (HA2.out.below ((Below.refl w2.heap.size w2).alloc (Nat.le_refl _) (.cells #[.int .i64 1] 3)) (Nat.le_refl _))
          have hgl : g ≠ w2.heap.size := Nat.ne_of_lt HS2.out.2.1.lt
          have hs3 : B ≤ (w2.alloc (.cells #[.int .i64 1] 3)).heap.size := by rw [World.size_alloc]; omega
          clear HS2 HA2
          have CV := hide (takeV_any g (q + 1) n cap b off 1 1 (some ⟨w2.heap.size, 0, none⟩) [1] zs _ HS3.out.2.1 hm hcap HN.out HA3.out hbg HI.out rfl (by omega) (by intro b' off' e; cases e; exact hgl.symm) (by omega))
          generalize w2.alloc (.cells #[.int .i64 1] 3) = w3 at *
          clear HI
          refine CV.out.mono ?_
          intro e w4 hv
          obtain ⟨a', k, c', q', ev, rfl, hkc, hc4, hg4, ha4, hl4, hq4, hcs⟩ := tvr_uni hv HN.out HA3.out hbg
          have HS4 := hide (HS3.out.moved hgX hg4 hc4)
          have HA4 := hide ha4
          have HL4 := hide hl4
          have HCS := hide hcs
          have hs4 : B ≤ w4.heap.size := Nat.le_trans hs3 hg4.size
          clear hv CV HS3 HA3 hc4 hg4 ha4 hl4 hcs
          have hk6 : k ≤ 6 := by
            rcases HCS.out with ⟨_, h, _⟩ | ⟨hg, hy, _⟩
            · omega
            · have := tv_in hg hy (by simp); simp only [List.mem_cons, List.not_mem_nil, or_false] at this; omega
          go_wp2_with fail
          refine (takeNumber_walk a' k c' _ w4 HL4.out HA4.out hk6).mono ?_
          rintro e w5 ⟨rfl, rfl⟩
          have k8 := HS4.out.2.2.1.cell 8 _ rfl
          have kf := HS4.out.2.2.1.frozen
          generalize hy9 : tnum ((zs.drop (q + 1 + 1)).take k) = y9 at *
          have HS5 := hide (HS4.out.sc1 hgX (min y9 14))
          clear HS4 HA4 HL4
          go_wp2_with fail
          rcases HCS.out with ⟨hbad, h5, h6, h7, c, rfl⟩ | ⟨hgood, hy, hk, rfl, rfl⟩
          · exact ⟨⟨q', _, _, _, _, hq4, HS5, .inr ⟨c, rfl, hide (HR.out.symm.trans (rdq_bad HN.out hlt (by omega) (by omega) (by rw [h3, show optL 3 = [1] from rfl]; exact hbad)))⟩⟩, by rw [toM_err HS5.out.2.1, HM.out]; omega⟩
          · have h2k := tv_in hgood hy (by simp)
            simp only [List.mem_cons, List.not_mem_nil, or_false] at h2k
            obtain rfl : k = 1 := by omega
            exact ⟨⟨_, _, _, _, _, hq4, HS5, .inl ⟨rfl, hide (by rw [← HR.out, rdq_scale hqz h3 hy (by rw [HN.out]; omega), ← hy9, min14])⟩⟩, by rw [toM_ok HS5.out.2.1, HM.out]; omega⟩
        by_cases h4 : zs.getD q 0 = 4
        · rw [h4] at CK
          have HM := hide (toM_ok (n := n) HS.out.2.1)
          obtain ⟨d0, d1, d2, df⟩ := HS.out.2.1.cells
          go_wp2_with fail
          refine CK.out.mono ?_
          rintro e w2 ⟨rfl, hc2, hg2⟩
          have HS2 := hide (HS.out.moved hgX hg2 hc2)
          have HA2 := hide (HA1.out.aside hg2 hbg)
          have hs2 : B ≤ w2.heap.size := Nat.le_trans hBW hg2.size
          clear hc2 hg2 HS CK HA1 d0 d1 d2 df
          have k9 := HS2.out.2.2.1.cell 9 _ rfl
          have kf := HS2.out.2.2.1.frozen
          have HS2b := hide (HS2.out.so1 hgX)
          have HA2b := hide (HA2.out.aside (grown_cell w2 X 9 (.bool true)) hbX)
          have hs2b : B ≤ (w2.setCell ⟨X, 9, none⟩ (.bool true)).heap.size := by simpa using hs2
          go_upto_region 14 with fail
          clear HS2 HA2 hs2 k9 kf
          generalize w2.setCell ⟨X, 9, none⟩ (.bool true) = w2 at *
          have HS2 := HS2b
          have HA2 := HA2b
          have hs2 := hs2b
          clear HS2b HA2b hs2b
          go_wp2_with fail
          have HI : Hid (ArrI (w2.alloc (.cells #[.int .i64 0] 3)) (some ⟨w2.heap.size, 0, none⟩) [0]) := hide (arrI_one w2 0 _)
          have HS3 := hide (HS2.out.next ((Below.refl _ _).alloc (Nat.le_refl _) (.cells #[.int .i64 0] 3)))
          have HA3 := hide (HA2.out.below ((Below.refl w2.heap.size w2).alloc (Nat.le_refl _) (.cells #[.int .i64 0] 3)) (Nat.le_refl _))
          have hgl : g ≠ w2.heap.size := Nat.ne_of_lt HS2.out.2.1.lt
          have hs3 : B ≤ (w2.alloc (.cells #[.int .i64 0] 3)).heap.size := by rw [World.size_alloc]; omega
          clear HS2 HA2
          have CV := hide (takeV_any g (q + 1) n cap b off 1 1 (some ⟨w2.heap.size, 0, none⟩) [0] zs _ HS3.out.2.1 hm hcap HN.out HA3.out hbg HI.out rfl (by omega) (by intro b' off' e; cases e; exact hgl.symm) (by omega))
          generalize w2.alloc (.cells #[.int .i64 0] 3) = w3 at *
          clear HI
          refine CV.out.mono ?_
          intro e w4 hv
          obtain ⟨a', k, c', q', ev, rfl, hkc, hc4, hg4, ha4, hl4, hq4, hcs⟩ := tvr_uni hv HN.out HA3.out hbg
          have HS4 := hide (HS3.out.moved hgX hg4 hc4)
          have HA4 := hide ha4
          have HL4 := hide hl4
          have HCS := hide hcs
          have hs4 : B ≤ w4.heap.size := Nat.le_trans hs3 hg4.size
          clear hv CV HS3 HA3 hc4 hg4 ha4 hl4 hcs
          go_wp2_with fail
          rcases HCS.out with ⟨hbad, h5, h6, h7, c, rfl⟩ | ⟨hgood, hy, hk, rfl, rfl⟩
          · exact ⟨⟨q', _, _, _, _, hq4, HS4, .inr ⟨c, rfl, hide (HR.out.symm.trans (rdq_bad HN.out hlt (by omega) (by omega) (by rw [h4, show optL 4 = [0] from rfl]; exact hbad)))⟩⟩, by rw [toM_err HS4.out.2.1, HM.out]; omega⟩
          · have h2k := tv_in hgood hy (by simp)
            simp only [List.mem_cons, List.not_mem_nil, or_false] at h2k
            obtain rfl : k = 0 := by omega
            exact ⟨⟨_, _, _, _, _, hq4, HS4, .inl ⟨rfl, hide (by rw [← HR.out, rdq_sok hqz h4 hy (by rw [HN.out]; omega)])⟩⟩, by rw [toM_ok HS4.out.2.1, HM.out]; omega⟩
        by_cases h5 : zs.getD q 0 = 5
        · rw [h5] at CK
          have HM := hide (toM_ok (n := n) HS.out.2.1)
          obtain ⟨d0, d1, d2, df⟩ := HS.out.2.1.cells
          go_wp2_with fail
          refine CK.out.mono ?_
          rintro e w2 ⟨rfl, hc2, hg2⟩
          have HS2 := hide (HS.out.moved hgX hg2 hc2)
          have HA2 := hide (HA1.out.aside hg2 hbg)
          have hs2 : B ≤ w2.heap.size := Nat.le_trans hBW hg2.size
          clear hc2 hg2 HS CK HA1 d0 d1 d2 df
          go_wp2_with fail
          have HI : Hid (ArrI (w2.alloc (.cells #[.int .i64 8, .int .i64 16, .int .i64 24, .int .i64 32] 3)) (some ⟨w2.heap.size, 0, none⟩) [8, 16, 24, 32]) := hide (arrI_four w2 8 16 24 32 _)
          have HS3 := hide (HS2.out.next ((Below.refl _ _).alloc (Nat.le_refl _) (.cells #[.int .i64 8, .int .i64 16, .int .i64 24, .int .i64 32] 3)))
          have HA3 := hide (HA2.out.below ((Below.refl w2.heap.size w2).alloc (Nat.le_refl _) (.cells #[.int .i64 8, .int .i64 16, .int .i64 24, .int .i64 32] 3)) (Nat.le_refl _))
          have hgl : g ≠ w2.heap.size := Nat.ne_of_lt HS2.out.2.1.lt
          have hs3 : B ≤ (w2.alloc (.cells #[.int .i64 8, .int .i64 16, .int .i64 24, .int .i64 32] 3)).heap.size := by rw [World.size_alloc]; omega
          clear HS2 HA2
          have CV := hide (takeV_any g (q + 1) n cap b off 4 4 (some ⟨w2.heap.size, 0, none⟩) [8, 16, 24, 32] zs _ HS3.out.2.1 hm hcap HN.out HA3.out hbg HI.out rfl (by omega) (by intro b' off' e; cases e; exact hgl.symm) (by omega))
          generalize w2.alloc (.cells #[.int .i64 8, .int .i64 16, .int .i64 24, .int .i64 32] 3) = w3 at *
          clear HI
          refine CV.out.mono ?_
          intro e w4 hv
          obtain ⟨a', k, c', q', ev, rfl, hkc, hc4, hg4, ha4, hl4, hq4, hcs⟩ := tvr_uni hv HN.out HA3.out hbg
          have HS4 := hide (HS3.out.moved hgX hg4 hc4)
          have HA4 := hide ha4
          have HL4 := hide hl4
          have HCS := hide hcs
          have hs4 : B ≤ w4.heap.size := Nat.le_trans hs3 hg4.size
          clear hv CV HS3 HA3 hc4 hg4 ha4 hl4 hcs
          have hk8 : (k = 0 ∧ a' = none ∧ c' = 0) ∨ (k : Int) ∈ ([8, 16, 24, 32] : List Int) := by
            rcases HCS.out with ⟨_, h, h', h'', _⟩ | ⟨hg, hy, _⟩
            · exact .inl ⟨h, h', h''⟩
            · exact .inr (tv_in hg hy (by simp))
          go_wp2_with fail
          refine (firstS_any a' k c' _ w4 HL4.out hkc HA4.out hk8).mono ?_
          rintro e w5 ⟨a9, c9, rfl, ho5, hb5⟩
          have HS5 := hide (HS4.out.next hb5)
          have k10 := HS5.out.2.2.1.cell 10 _ rfl
          have kf := HS5.out.2.2.1.frozen
          have HS6 := hide (HS5.out.sks hgX _ _ _ (ho5.mono hs4))
          clear HS4 HS5 HA4 HL4 ho5 hb5
          generalize hm9 : min 3 (k / 8) = m9 at *
          go_wp2_with fail
          rcases HCS.out with ⟨hbad, _, _, _, c, rfl⟩ | ⟨hgood, hy, hk, rfl, rfl⟩
          · exact ⟨⟨q', _, _, _, _, hq4, HS6, .inr ⟨c, rfl, hide (HR.out.symm.trans (rdq_bad HN.out hlt (by omega) (by omega) (by rw [h5, show optL 5 = [8, 16, 24, 32] from rfl]; exact hbad)))⟩⟩, by rw [toM_err HS6.out.2.1, HM.out]; omega⟩
          · exact ⟨⟨_, _, _, _, _, hq4, HS6, .inl ⟨rfl, hide (by rw [← HR.out, rdq_sacks hqz h5 hy (by rw [HN.out]; omega) (tv_in hgood hy (by simp)), ← hm9])⟩⟩, by rw [toM_ok HS6.out.2.1, HM.out]; omega⟩
        have HM := hide (toM_ok (n := n) HS.out.2.1)
        have HK0 := hide h0; have HK1 := hide h1; have HK2 := hide h2; have HK3 := hide h3; have HK4 := hide h4; have HK5 := hide h5
        have g0 : (zs.getD q 0 == 0) = false := beq_eq_false_iff_ne.2 h0
        have g1 : (zs.getD q 0 == 1) = false := beq_eq_false_iff_ne.2 h1
        have g2 : (zs.getD q 0 == 2) = false := beq_eq_false_iff_ne.2 h2
        have g3 : (zs.getD q 0 == 3) = false := beq_eq_false_iff_ne.2 h3
        have g4 : (zs.getD q 0 == 4) = false := beq_eq_false_iff_ne.2 h4
        have g5 : (zs.getD q 0 == 5) = false := beq_eq_false_iff_ne.2 h5
        have g6 : (zs.getD q 0 == -1) = false := beq_eq_false_iff_ne.2 (by have := (getD_bd HA.out.1 q).1; omega)
        have HKK : Hid (∃ kk, kk = zs.getD q 0) := hide ⟨_, rfl⟩
        generalize hkk : zs.getD q 0 = kk at CK g0 g1 g2 g3 g4 g5 g6
        have HKE := hide hkk
        clear hkk h0 h1 h2 h3 h4 h5
        obtain ⟨d0, d1, d2, df⟩ := HS.out.2.1.cells
        go_wp2_with fail
        refine CK.out.mono ?_
        rintro e w2 ⟨rfl, hc2, hg2⟩
        have HS2 := hide (HS.out.moved hgX hg2 hc2)
        have HA2 := hide (HA1.out.aside hg2 hbg)
        have hs2 : B ≤ w2.heap.size := Nat.le_trans hBW hg2.size
        clear hc2 hg2 HS CK HA1 d0 d1 d2 df
        go_wp2_with fail
        have HS3 := HS2
        have HA3 := HA2
        have hs3 := hs2
        clear HS2 HA2
        have CV := hide (takeV_any g (q + 1) n cap b off 0 0 none [] zs _ HS3.out.2.1 hm hcap HN.out HA3.out hbg (arrI_no _) rfl (by omega) (by intro b' off' e; cases e) (by omega))
        generalize w2 = w3 at *
        refine CV.out.mono ?_
        intro e w4 hv
        obtain ⟨a', k, c', q', ev, rfl, hkc, hc4, hg4, ha4, hl4, hq4, hcs⟩ := tvr_uni hv HN.out HA3.out hbg
        have HS4 := hide (HS3.out.moved hgX hg4 hc4)
        have HA4 := hide ha4
        have HL4 := hide hl4
        have HCS := hide hcs
        have hs4 : B ≤ w4.heap.size := Nat.le_trans hs3 hg4.size
        clear hv CV HS3 HA3 hc4 hg4 ha4 hl4 hcs
        go_wp2_with fail
        rcases HCS.out with ⟨hbad, h5, h6, h7, c, rfl⟩ | ⟨hgood, hy, hk, rfl, rfl⟩
        · exact ⟨⟨q', _, _, _, _, hq4, HS4, .inr ⟨c, rfl, hide (HR.out.symm.trans (rdq_bad HN.out hlt HK0.out HK1.out (by unfold optL; rw [if_neg HK2.out, if_neg HK3.out, if_neg HK4.out, if_neg HK5.out]; exact hbad)))⟩⟩, by rw [toM_err HS4.out.2.1, HM.out]; omega⟩
        · exact ⟨⟨_, _, _, _, _, hq4, HS4, .inl ⟨rfl, hide (by rw [← HR.out, rdq_other hqz HK0.out HK1.out HK2.out HK3.out HK4.out HK5.out hy (by rw [HN.out]; omega)])⟩⟩, by rw [toM_ok HS4.out.2.1, HM.out]; omega⟩
    · obtain ⟨d0, d1, d2, df⟩ := HS.out.2.1.cells
      go_wp2_with fail
      go_end0
      exact ⟨rfl, q, _, st, v, r, HS.out, .inr ⟨HR.out, c, rfl⟩⟩
end Go.Proofs.YtcnfnimgpiaamaaDoor
