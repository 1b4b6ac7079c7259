/-
Contracts of functions of this seat.
-/
import Derived.Test.YthcmgnhfgplajaaDoorRows
import Derived.WalkKit
import Derived.ProofKit
import Derived.OpenShut
import Derived.Test.YthcmgnhfgplajaaDoorSmu
namespace Go.Proofs.YthcmgnhfgplajaaDoor
open Go.ChangeShapes Go.WideShapes Go.ChangeAt Go.RowKit
set_option linter.unusedVariables false
set_option maxRecDepth 100000
/-- What EncodeSegment's code is. -/
def sgV (x0 x1 x2 x3 x4 x5 x6 : Int) (x7 : Bool) (x8 : Int) (n0 : Nat) (z : List Int) (s d : Int) : Bool := sgOK x0 x1 x2 x3 x4 x5 x6 x7 x8 n0 z && adrB s && adrB d
set_option maxHeartbeats 4000000 in
theorem specEncS_form (x0 x1 x2 x3 x4 x5 x6 : Int) (x7 : Bool) (x8 : Int) (x9 : Bool) (a0 : Option Addr) (n0 c0 : Nat) (a1 : Option Addr) (n1 c1 : Nat) (s d : Int) (z : List Int) (w : World) (hz : z.length = n0 * 2) (ha : ArrI w a0 z) (m0 : n0 ≤ 1048576) (h : sgV x0 x1 x2 x3 x4 x5 x6 x7 x8 n0 z s d = false) :
    Calls Tryd.prog 19 #[.agg #[.int .i64 x0, .int .i64 x1, .int .i64 x2, .int .i64 x3, .int .i64 x4, .int .i64 x5, .int .i64 x6, .bool x7, .int .i64 x8, .bool x9, .slice a0 n0 c0, .slice a1 n1 c1], .int .i64 s, .int .i64 d] w fun e w' => e = .returned (.tuple #[.slice none 0 0, .int .i64 1]) ∧ Below w.heap.size w w' := by
  have HB : Hid (HoldV (w.alloc (.cells #[.int .i64 x0, .int .i64 x1, .int .i64 x2, .int .i64 x3, .int .i64 x4, .int .i64 x5, .int .i64 x6, .bool x7, .int .i64 x8, .bool x9, .slice a0 n0 c0, .slice a1 n1 c1] sgT)) w.heap.size _ sgT) := hide (heap_alloc_new _ _)
  have HW := hide ((Below.refl w.heap.size w).alloc (Nat.le_refl _) (.cells #[.int .i64 x0, .int .i64 x1, .int .i64 x2, .int .i64 x3, .int .i64 x4, .int .i64 x5, .int .i64 x6, .bool x7, .int .i64 x8, .bool x9, .slice a0 n0 c0, .slice a1 n1 c1] sgT))
  have HV := hide (l11OK_walk x0 x1 x2 x3 x4 x5 x6 x7 x8 x9 a0 n0 c0 a1 n1 c1 z _ hz (ha.below HW.out (Nat.le_refl _)) m0)
  have k0 := HB.out.cell 0 _ rfl; have k1 := HB.out.cell 1 _ rfl; have k2 := HB.out.cell 2 _ rfl; have k3 := HB.out.cell 3 _ rfl; have k4 := HB.out.cell 4 _ rfl; have k5 := HB.out.cell 5 _ rfl; have k6 := HB.out.cell 6 _ rfl; have k7 := HB.out.cell 7 _ rfl; have k8 := HB.out.cell 8 _ rfl; have k9 := HB.out.cell 9 _ rfl; have k10 := HB.out.cell 10 _ rfl; have k11 := HB.out.cell 11 _ rfl
  have HH : Hid (∀ o, sgOK x0 x1 x2 x3 x4 x5 x6 x7 x8 n0 z = o → (o && adrB s && adrB d) = false) := hide (fun o e => by unfold sgV at h; rw [e] at h; exact h)
  clear hz ha h HB
  go_enter Tryd.func19, Tryd.ntmps19
  go_wp2_with fail
  refine HV.out.mono ?_
  rintro e w1 ⟨rfl, hb1⟩
  have HW1 := hide (below_on HW.out hb1)
  clear hb1 HV HW k0 k1 k2 k3 k4 k5 k6 k7 k8 k9 k10 k11
  generalize sgOK x0 x1 x2 x3 x4 x5 x6 x7 x8 n0 z = o at *
  have hh := HH.out o rfl
  clear HH
  cases o
  · clear hh
    go_wp2_with fail
    go_ret2
    exact ⟨rfl, HW1.out⟩
  · cases h1 : adrB s with
    | false =>
      clear hh
      go_wp2_with (first | (go_at_call 36; refine (specAddrOK_walk _ _).mono ?_; rintro e w2 ⟨rfl, rfl⟩))
      go_ret2
      exact ⟨rfl, HW1.out⟩
    | true =>
      have h2 : adrB d = false := by rw [h1] at hh; simpa using hh
      clear hh
      go_wp2_with (first | (go_at_call 36; refine (specAddrOK_walk _ _).mono ?_; rintro e w2 ⟨rfl, rfl⟩))
      go_ret2
      exact ⟨rfl, HW1.out⟩

/-- A segment's bytes, without their sum, and with it. -/
def sgB (x0 x1 x2 x3 x4 x5 : Int) (O z1 : List Int) : List Int := putL x0 2 ++ putL x1 2 ++ putL x2 4 ++ putL x3 4 ++ [(20 + (O.length : Int)) / 4 * 16 % 256, x4] ++ putL x5 2 ++ [0, 0, 0, 0] ++ (O ++ z1)
def sgW (x0 x1 x2 x3 x4 x5 : Int) (O z1 : List Int) (s d : Int) : List Int := ((sgB x0 x1 x2 x3 x4 x5 O z1).set 16 (fsum s d 6 (sgB x0 x1 x2 x3 x4 x5 O z1) / 256)).set 17 (fsum s d 6 (sgB x0 x1 x2 x3 x4 x5 O z1) % 256)
/-- The state while a segment's bytes are put together: what is put so far (L), the options (O), the data (z1). -/
def EcS (w W : World) (vs : Array Value) (a1 : Option Addr) (z1 : List Int) (vo : Value) (O : List Int) (vb : Value) (L : List Int) : Prop := Below w.heap.size w W ∧ HoldV W w.heap.size vs sgT ∧ OwnB W (w.heap.size + 1) vo O ∧ OwnB W (w.heap.size + 1) vb L ∧ Arr W a1 z1
theorem EcS.next {w W W' : World} {vs : Array Value} {a1 : Option Addr} {z1 : List Int} {vo vb : Value} {O L : List Int} (h : EcS w W vs a1 z1 vo O vb L) (hb : Below W.heap.size W W') : EcS w W' vs a1 z1 vo O vb L := ⟨below_on h.1 hb, h.2.1.next hb, h.2.2.1.nx hb, h.2.2.2.1.nx hb, h.2.2.2.2.below hb (Nat.le_refl _)⟩
theorem EcS.put {w W : World} {vs : Array Value} {a1 : Option Addr} {z1 : List Int} {vo vb u : Value} {O L M : List Int} (h : EcS w W vs a1 z1 vo O vb L) (ho : OwnB W (w.heap.size + 1) u M) : EcS w W vs a1 z1 vo O u M := ⟨h.1, h.2.1, h.2.2.1, ho, h.2.2.2.2⟩
theorem EcS.lt {w W : World} {vs : Array Value} {a1 : Option Addr} {z1 : List Int} {vo vb : Value} {O L : List Int} (h : EcS w W vs a1 z1 vo O vb L) : w.heap.size + 1 ≤ W.heap.size := h.2.1.lt
def A6s (N X : Nat) (x0 x1 x2 x3 : Int) (va : Value) (vd : Value) (L O z1 : List Int) : Nat → Value → World → Prop
  | 0, v, _ => v = .pointer (some ⟨X, 0, none⟩)
  | 1, v, _ => v = .int .i64 x0
  | 2, v, W => OwnB W N v (putL x0 2)
  | 3, v, _ => v = .pointer (some ⟨X, 1, none⟩)
  | 4, v, _ => v = .int .i64 x1
  | 5, v, W => OwnB W N v (putL x1 2)
  | 6, v, W => OwnB W N v (putL x0 2 ++ putL x1 2)
  | _, _, _ => True
theorem A6s_kept {N X : Nat} {x0 x1 x2 x3 : Int} {va vd : Value} {L O z1 : List Int} : ∀ (i : Nat) (v : Value) (W W2 : World), Below W.heap.size W W2 → A6s N X x0 x1 x2 x3 va vd L O z1 i v W → A6s N X x0 x1 x2 x3 va vd L O z1 i v W2 := by
  intro i v W W2 hb h
  unfold A6s at h ⊢
  split at h
  all_goals first
    | exact h
    | exact OwnB.nx h hb
def A7s (N X : Nat) (x0 x1 x2 x3 : Int) (va : Value) (vd : Value) (L O z1 : List Int) : Nat → Value → World → Prop
  | 0, v, W => OwnB W N v (L)
  | 1, v, _ => v = .pointer (some ⟨X, 2, none⟩)
  | 2, v, _ => v = .int .i64 x2
  | 3, v, W => OwnB W N v (putL x2 4)
  | 4, v, W => OwnB W N v (L ++ putL x2 4)
  | 5, v, _ => v = .pointer (some ⟨X, 3, none⟩)
  | 6, v, _ => v = .int .i64 x3
  | 7, v, W => OwnB W N v (putL x3 4)
  | 8, v, W => OwnB W N v (L ++ putL x2 4 ++ putL x3 4)
  | _, _, _ => True
theorem A7s_kept {N X : Nat} {x0 x1 x2 x3 : Int} {va vd : Value} {L O z1 : List Int} : ∀ (i : Nat) (v : Value) (W W2 : World), Below W.heap.size W W2 → A7s N X x0 x1 x2 x3 va vd L O z1 i v W → A7s N X x0 x1 x2 x3 va vd L O z1 i v W2 := by
  intro i v W W2 hb h
  unfold A7s at h ⊢
  split at h
  all_goals first
    | exact h
    | exact OwnB.nx h hb
def A10s (N X : Nat) (x0 x1 x2 x3 : Int) (va : Value) (vd : Value) (L O z1 : List Int) : Nat → Value → World → Prop
  | 0, v, W => OwnB W N v (L)
  | 1, v, W => OwnB W N v ([0, 0, 0, 0])
  | 2, v, W => OwnB W N v (L ++ [0, 0, 0, 0])
  | 3, v, W => OwnB W N v (O)
  | 4, v, _ => v = .pointer (some ⟨X, 11, none⟩)
  | 5, v, _ => v = vd
  | 6, v, W => OwnB W N v (O ++ z1)
  | 7, v, W => OwnB W N v ((L ++ [0, 0, 0, 0]) ++ (O ++ z1))
  | _, _, _ => True
theorem A10s_kept {N X : Nat} {x0 x1 x2 x3 : Int} {va vd : Value} {L O z1 : List Int} : ∀ (i : Nat) (v : Value) (W W2 : World), Below W.heap.size W W2 → A10s N X x0 x1 x2 x3 va vd L O z1 i v W → A10s N X x0 x1 x2 x3 va vd L O z1 i v W2 := by
  intro i v W W2 hb h
  unfold A10s at h ⊢
  split at h
  all_goals first
    | exact h
    | exact OwnB.nx h hb
theorem own_cx {w : World} {B ub n cap : Nat} {zs : List Int} (h : OwnB w B (.slice (some ⟨ub, 0, none⟩) n cap) zs) (hn : zs.length = n) (i : Nat) (hi : i < n) : ∃ x, w.cell? ⟨ub, i, none⟩ = some (.int .u8 x) := by
  subst hn
  exact ⟨_, by rw [h.1.cellAt i (by omega), bval_get zs i hi]⟩
theorem own_fz {w : World} {B ub n cap : Nat} {zs : List Int} (h : OwnB w B (.slice (some ⟨ub, 0, none⟩) n cap) zs) (i : Nat) : w.frozen? ⟨ub, i, none⟩ = false := by
  rcases h.1.2 with ⟨hn, _⟩ | ⟨r, c, cur, hv, hr, hc, rest⟩
  · cases hn
  · injection hv with h1; injection h1 with h2; injection h2 with h3; subst h3
    exact frozen_of_row w _ i _ _ hc
set_option maxHeartbeats 8000000 in
theorem specEncS_ok (x0 x1 x2 x3 x4 x5 x6 : Int) (x7 : Bool) (x8 : Int) (x9 : Bool) (a0 : Option Addr) (n0 c0 : Nat) (a1 : Option Addr) (n1 c1 : Nat) (s d : Int) (z z1 : List Int) (w : World) (hz : z.length = n0 * 2) (ha : ArrI w a0 z) (m0 : n0 ≤ 1048576) (hz1 : z1.length = n1) (ha1 : Arr w a1 z1) (m1 : n1 ≤ 1048576) (h : sgV x0 x1 x2 x3 x4 x5 x6 x7 x8 n0 z s d = true) (hx0 : 0 ≤ x0) (hx1 : 0 ≤ x1) (hx2 : 0 ≤ x2) (hx3 : 0 ≤ x3) (hx40 : 0 ≤ x4) (hx41 : x4 ≤ 63) (hx5 : 0 ≤ x5) (h6 : 0 ≤ x6) (h80 : 0 ≤ x8) (h81 : x8 ≤ 14) (h3 : n0 ≤ 3) (hzb : ∀ q, q < z.length → 0 ≤ z.getD q 0) (O : List Int) (hO : segO x6 x7 x8 x9 n0 z = O) (hOl : O.length ≤ 60) (hsize : 20 + O.length + n1 ≤ 65515) :
    Calls Tryd.prog 19 #[.agg #[.int .i64 x0, .int .i64 x1, .int .i64 x2, .int .i64 x3, .int .i64 x4, .int .i64 x5, .int .i64 x6, .bool x7, .int .i64 x8, .bool x9, .slice a0 n0 c0, .slice a1 n1 c1], .int .i64 s, .int .i64 d] w fun e w' => ∃ v : Value, e = .returned (.tuple #[v, .int .i64 0]) ∧ OwnB w' w.heap.size v (sgW x0 x1 x2 x3 x4 x5 O z1 s d) ∧ Below w.heap.size w w' := by
  have HB : Hid (HoldV (w.alloc (.cells #[.int .i64 x0, .int .i64 x1, .int .i64 x2, .int .i64 x3, .int .i64 x4, .int .i64 x5, .int .i64 x6, .bool x7, .int .i64 x8, .bool x9, .slice a0 n0 c0, .slice a1 n1 c1] sgT)) w.heap.size _ sgT) := hide (heap_alloc_new _ _)
  have HW := hide ((Below.refl w.heap.size w).alloc (Nat.le_refl _) (.cells #[.int .i64 x0, .int .i64 x1, .int .i64 x2, .int .i64 x3, .int .i64 x4, .int .i64 x5, .int .i64 x6, .bool x7, .int .i64 x8, .bool x9, .slice a0 n0 c0, .slice a1 n1 c1] sgT))
  have HV := hide (l11OK_walk x0 x1 x2 x3 x4 x5 x6 x7 x8 x9 a0 n0 c0 a1 n1 c1 z _ hz (ha.below HW.out (Nat.le_refl _)) m0)
  have HA := hide (ha.below HW.out (Nat.le_refl _))
  have HD := hide (ha1.below HW.out (Nat.le_refl _))
  have k0 := HB.out.cell 0 _ rfl; have k1 := HB.out.cell 1 _ rfl; have k2 := HB.out.cell 2 _ rfl; have k3 := HB.out.cell 3 _ rfl; have k4 := HB.out.cell 4 _ rfl; have k5 := HB.out.cell 5 _ rfl; have k6 := HB.out.cell 6 _ rfl; have k7 := HB.out.cell 7 _ rfl; have k8 := HB.out.cell 8 _ rfl; have k9 := HB.out.cell 9 _ rfl; have k10 := HB.out.cell 10 _ rfl; have k11 := HB.out.cell 11 _ rfl
  have hparts : sgOK x0 x1 x2 x3 x4 x5 x6 x7 x8 n0 z = true ∧ adrB s = true ∧ adrB d = true := by unfold sgV at h; simp only [Bool.and_eq_true] at h; exact ⟨h.1.1, h.1.2, h.2⟩
  obtain ⟨hok, hs, hd⟩ := hparts
  rw [hok] at HV
  have HZ := hide hz; have HZ1 := hide hz1; have HZB := hide hzb; have HOn := hide hOl; have HLn : Hid (0 ≤ 0) := hide (Nat.le_refl 0)
  clear ha ha1 hz hz1 hzb h hok hOl
  go_enter Tryd.func19, Tryd.ntmps19
  go_wp2_with fail
  refine HV.out.mono ?_
  rintro e w1 ⟨rfl, hb1⟩
  replace HB := hide (HB.out.next hb1)
  replace HW := hide (below_on HW.out hb1)
  replace HA := hide (HA.out.below hb1 (Nat.le_refl _))
  replace HD := hide (HD.out.below hb1 (Nat.le_refl _))
  clear hb1 HV k0 k1 k2 k3 k4 k5 k6 k7 k8 k9 k10 k11
  have k0 := HB.out.cell 0 _ rfl; have k1 := HB.out.cell 1 _ rfl; have k2 := HB.out.cell 2 _ rfl; have k3 := HB.out.cell 3 _ rfl; have k4 := HB.out.cell 4 _ rfl; have k5 := HB.out.cell 5 _ rfl; have k6 := HB.out.cell 6 _ rfl; have k7 := HB.out.cell 7 _ rfl; have k8 := HB.out.cell 8 _ rfl; have k9 := HB.out.cell 9 _ rfl; have k10 := HB.out.cell 10 _ rfl; have k11 := HB.out.cell 11 _ rfl
  have CO := hide (l11Options_walk x0 x1 x2 x3 x4 x5 x6 x7 x8 x9 a0 n0 c0 a1 n1 c1 z w1 HZ.out HA.out h3 h6 h80 h81 HZB.out)
  go_wp2_with (first | (go_at_call 36; refine (specAddrOK_walk _ _).mono ?_; rintro e w2 ⟨rfl, rfl⟩))
  refine CO.out.mono ?_
  clear CO k0 k1 k2 k3 k4 k5 k6 k7 k8 k9 k10 k11
  rintro e w2 ⟨vo, rfl, ho, hb1⟩
  rw [hO] at ho
  obtain ⟨oa, oc, hov, _⟩ := own_slice ho
  have hlt := HB.out.lt
  have HS : Hid (EcS w w2 #[.int .i64 x0, .int .i64 x1, .int .i64 x2, .int .i64 x3, .int .i64 x4, .int .i64 x5, .int .i64 x6, .bool x7, .int .i64 x8, .bool x9, .slice a0 n0 c0, .slice a1 n1 c1] a1 z1 vo O (.slice none 0 0) []) := hide ⟨below_on HW.out hb1, HB.out.next hb1, ho.low (by omega), ⟨World.ownsRow_nil _ _ _ _, by simp⟩, HD.out.below hb1 (Nat.le_refl _)⟩
  clear hb1 ho HB HW HA HD hO
  generalize hon : O.length = on at *
  subst hov
  have HON := hide hon
  clear hon
  have k11 := HS.out.2.1.cell 11 _ rfl
  have hw1 : IntKind.i64.wrap (20 + (on : Int)) = 20 + (on : Int) := by have := HOn.out; rw [IntKind.wrap_i64]; omega
  have hw2 : IntKind.i64.wrap (20 + (on : Int) + (n1 : Int)) = 20 + (on : Int) + (n1 : Int) := by have := HOn.out; rw [IntKind.wrap_i64]; omega
  have hsz : ¬ (65515 : Int) < 20 + (on : Int) + (n1 : Int) := by omega
  go_upto_region 6 with fail
  clear k11 hw1 hw2 hsz
  generalize hvb : Value.slice none 0 0 = vb at HS
  generalize hLb : ([] : List Int) = Lb at HS
  clear hvb hLb
  refine wp_region_last3 (fun W W2 => Below W.heap.size W W2) (fun W => EcS w W #[.int .i64 x0, .int .i64 x1, .int .i64 x2, .int .i64 x3, .int .i64 x4, .int .i64 x5, .int .i64 x6, .bool x7, .int .i64 x8, .bool x9, .slice a0 n0 c0, .slice a1 n1 c1] a1 z1 (.slice oa on oc) O vb Lb) (A6s (w.heap.size + 1) w.heap.size x0 x1 x2 x3 vb (.slice a1 n1 c1) Lb O z1) _ rfl _ rfl (by kernel_rfl) (by kernel_rfl) (by kernel_rfl) (by kernel_rfl) A6s_kept (HS.out.next (Below.refl _ _).drew) ?_ ?_
  simp only [List.dropLast]
  refine EachL.one _ _ _ ?_ ?_
  · intro v W hB hp KK hKK
    rw [if_pos (by rfl)]
    have hp1 : AllOf (A6s (w.heap.size + 1) w.heap.size x0 x1 x2 x3 vb (.slice a1 n1 c1) Lb O z1) v W [] := hp
    clear hp
    simp only [putAll, Act.put, List.setIfInBounds_toArray, List.set_cons_zero, List.set_cons_succ, Nat.reduceAdd] at hKK ⊢
    have HBB := hide hB
    clear hB
    go_simp
    refine hKK _ _ (Below.refl _ _) HBB.out ?_
    rfl
  refine EachL.one _ _ _ ?_ ?_
  · intro v W hB hp KK hKK
    rw [if_pos (by rfl)]
    have hp1 : AllOf (A6s (w.heap.size + 1) w.heap.size x0 x1 x2 x3 vb (.slice a1 n1 c1) Lb O z1) v W [0] := hp
    clear hp
    simp only [putAll, Act.put, List.setIfInBounds_toArray, List.set_cons_zero, List.set_cons_succ, Nat.reduceAdd] at hKK ⊢
    obtain ⟨p0, _⟩ := hp1
    have e0 : v 0 = .pointer (some ⟨w.heap.size, 0, none⟩) := p0
    simp only [e0] at hKK ⊢
    clear p0 e0
    have HBB := hide hB
    clear hB
    have kk := HBB.out.2.1.cell 0 _ rfl
    go_simp
    refine hKK _ _ (Below.refl _ _) HBB.out ?_
    rfl
  refine EachL.one _ _ _ ?_ ?_
  · intro v W hB hp KK hKK
    rw [if_pos (by rfl)]
    have hp1 : AllOf (A6s (w.heap.size + 1) w.heap.size x0 x1 x2 x3 vb (.slice a1 n1 c1) Lb O z1) v W [1] := hp
    clear hp
    simp only [putAll, Act.put, List.setIfInBounds_toArray, List.set_cons_zero, List.set_cons_succ, Nat.reduceAdd] at hKK ⊢
    obtain ⟨p1, _⟩ := hp1
    have e1 : v 1 = .int .i64 x0 := p1
    simp only [e1] at hKK ⊢
    clear p1 e1
    have HBB := hide hB
    clear hB
    have CP : Calls Tryd.prog 54 #[.int .i64 x0, .int .i64 2] W fun e w2 => ∃ u : Value, e = .returned u ∧ OwnB w2 W.heap.size u (putL x0 2) ∧ Below W.heap.size W w2 := l03Put_walk x0 2 _ hx0 (by omega)
    go_simp
    refine CP.mono ?_
    clear CP
    rintro e w2 ⟨u, rfl, ho, hb⟩
    go_simp
    refine hKK _ _ hb (HBB.out.next hb) ?_
    exact ho.low HBB.out.lt
  refine EachL.one _ _ _ ?_ ?_
  · intro v W hB hp KK hKK
    rw [if_pos (by rfl)]
    have hp1 : AllOf (A6s (w.heap.size + 1) w.heap.size x0 x1 x2 x3 vb (.slice a1 n1 c1) Lb O z1) v W [] := hp
    clear hp
    simp only [putAll, Act.put, List.setIfInBounds_toArray, List.set_cons_zero, List.set_cons_succ, Nat.reduceAdd] at hKK ⊢
    have HBB := hide hB
    clear hB
    go_simp
    refine hKK _ _ (Below.refl _ _) HBB.out ?_
    rfl
  refine EachL.one _ _ _ ?_ ?_
  · intro v W hB hp KK hKK
    rw [if_pos (by rfl)]
    have hp1 : AllOf (A6s (w.heap.size + 1) w.heap.size x0 x1 x2 x3 vb (.slice a1 n1 c1) Lb O z1) v W [3] := hp
    clear hp
    simp only [putAll, Act.put, List.setIfInBounds_toArray, List.set_cons_zero, List.set_cons_succ, Nat.reduceAdd] at hKK ⊢
    obtain ⟨p3, _⟩ := hp1
    have e3 : v 3 = .pointer (some ⟨w.heap.size, 1, none⟩) := p3
    simp only [e3] at hKK ⊢
    clear p3 e3
    have HBB := hide hB
    clear hB
    have kk := HBB.out.2.1.cell 1 _ rfl
    go_simp
    refine hKK _ _ (Below.refl _ _) HBB.out ?_
    rfl
  refine EachL.one _ _ _ ?_ ?_
  · intro v W hB hp KK hKK
    rw [if_pos (by rfl)]
    have hp1 : AllOf (A6s (w.heap.size + 1) w.heap.size x0 x1 x2 x3 vb (.slice a1 n1 c1) Lb O z1) v W [4, 2] := hp
    clear hp
    simp only [putAll, Act.put, List.setIfInBounds_toArray, List.set_cons_zero, List.set_cons_succ, Nat.reduceAdd] at hKK ⊢
    obtain ⟨p4, p2, _⟩ := hp1
    have e4 : v 4 = .int .i64 x1 := p4
    have o2 : OwnB W (w.heap.size + 1) (v 2) (putL x0 2) := p2
    simp only [e4] at hKK ⊢
    clear p4 p2 e4
    have HBB := hide hB
    clear hB
    have CP : Calls Tryd.prog 54 #[.int .i64 x1, .int .i64 2] W fun e w2 => ∃ u : Value, e = .returned u ∧ OwnB w2 W.heap.size u (putL x1 2) ∧ Below W.heap.size W w2 := l03Put_walk x1 2 _ hx1 (by omega)
    go_simp
    refine CP.mono ?_
    clear CP
    rintro e w2 ⟨u, rfl, ho, hb⟩
    go_simp
    refine hKK _ _ hb (HBB.out.next hb) ?_
    exact ho.low HBB.out.lt
  refine EachL.one _ _ _ ?_ ?_
  · intro v W hB hp KK hKK
    rw [if_pos (by rfl)]
    have hp1 : AllOf (A6s (w.heap.size + 1) w.heap.size x0 x1 x2 x3 vb (.slice a1 n1 c1) Lb O z1) v W [2, 5, 5] := hp
    clear hp
    simp only [putAll, Act.put, List.setIfInBounds_toArray, List.set_cons_zero, List.set_cons_succ, Nat.reduceAdd] at hKK ⊢
    obtain ⟨p2, p5, _, _⟩ := hp1
    have o2 : OwnB W (w.heap.size + 1) (v 2) (putL x0 2) := p2
    have o5 : OwnB W (w.heap.size + 1) (v 5) (putL x1 2) := p5
    clear p2 p5 
    have HBB := hide hB
    clear hB
    have HA_ := hide o2; have HB_ := hide o5
    clear o2 o5
    go_simp
    refine (l01Join_from _ _ _ _ (w.heap.size + 1) (putL x0 2) (putL x1 2) W HBB.out.lt HA_.out HB_.out (by have h1 := HLn.out; have h2 := HOn.out; have h3 := HZ1.out; have h4 := HON.out; first | omega | (rw [putL_len]; omega) | (rw [List.length_append, putL_len]; omega) | (rw [List.length_append]; omega) | (rw [List.length_append]; simp; omega) | simp) (by have h1 := HLn.out; have h2 := HOn.out; have h3 := HZ1.out; have h4 := HON.out; first | omega | (rw [putL_len]; omega) | (rw [List.length_append, putL_len]; omega) | (rw [List.length_append]; omega) | (rw [List.length_append]; simp; omega) | simp)).mono ?_
    rintro e w2 ⟨r, rfl, ho, hb⟩
    go_simp
    refine hKK _ _ hb (HBB.out.next hb) ?_
    exact ho
  · exact trivial
  intro v W hB hA KK hKK
  rw [if_pos (by rfl)]
  simp only [List.dropLast, putAll, Act.put, List.setIfInBounds_toArray, List.set_cons_zero, List.set_cons_succ, Nat.reduceAdd]
  have oo : OwnB W (w.heap.size + 1) (v 6) (putL x0 2 ++ putL x1 2) := hA 6 (by decide)
  clear hA
  generalize v 0 = y0; generalize v 1 = y1; generalize v 2 = y2; generalize v 3 = y3; generalize v 4 = y4; generalize v 5 = y5
  generalize v 6 = r6 at *
  have HN := hide (hB.put oo)
  clear hB oo
  go_simp
  refine hKK _ _ ?_
  clear hKK
  clear HS
  have HS6 := HN
  clear HN
  generalize hL6 : putL x0 2 ++ putL x1 2 = L6 at HS6
  have HL6 : Hid (L6.length ≤ 4) := hide (by rw [← hL6]; rw [List.length_append, putL_len, putL_len]; omega)
  have HL6s : Hid (4 ≤ L6.length) := hide (by rw [← hL6]; rw [List.length_append, putL_len, putL_len]; omega)
  have HL6e := hide hL6
  clear hL6
  go_upto_region 7 with fail
  refine wp_region_last3 (fun W W2 => Below W.heap.size W W2) (fun W => EcS w W #[.int .i64 x0, .int .i64 x1, .int .i64 x2, .int .i64 x3, .int .i64 x4, .int .i64 x5, .int .i64 x6, .bool x7, .int .i64 x8, .bool x9, .slice a0 n0 c0, .slice a1 n1 c1] a1 z1 (.slice oa on oc) O r6 L6) (A7s (w.heap.size + 1) w.heap.size x0 x1 x2 x3 r6 (.slice a1 n1 c1) L6 O z1) _ rfl _ rfl (by kernel_rfl) (by kernel_rfl) (by kernel_rfl) (by kernel_rfl) A7s_kept (HS6.out.next (Below.refl _ _).drew) ?_ ?_
  simp only [List.dropLast]
  refine EachL.one _ _ _ ?_ ?_
  · intro v W hB hp KK hKK
    rw [if_pos (by rfl)]
    have hp1 : AllOf (A7s (w.heap.size + 1) w.heap.size x0 x1 x2 x3 r6 (.slice a1 n1 c1) L6 O z1) v W [] := hp
    clear hp
    simp only [putAll, Act.put, List.setIfInBounds_toArray, List.set_cons_zero, List.set_cons_succ, Nat.reduceAdd] at hKK ⊢
    have HBB := hide hB
    clear hB
    go_simp
    refine hKK _ _ (Below.refl _ _) HBB.out ?_
    exact HBB.out.2.2.2.1
  refine EachL.one _ _ _ ?_ ?_
  · intro v W hB hp KK hKK
    rw [if_pos (by rfl)]
    have hp1 : AllOf (A7s (w.heap.size + 1) w.heap.size x0 x1 x2 x3 r6 (.slice a1 n1 c1) L6 O z1) v W [] := hp
    clear hp
    simp only [putAll, Act.put, List.setIfInBounds_toArray, List.set_cons_zero, List.set_cons_succ, Nat.reduceAdd] at hKK ⊢
    have HBB := hide hB
    clear hB
    go_simp
    refine hKK _ _ (Below.refl _ _) HBB.out ?_
    rfl
  refine EachL.one _ _ _ ?_ ?_
  · intro v W hB hp KK hKK
    rw [if_pos (by rfl)]
    have hp1 : AllOf (A7s (w.heap.size + 1) w.heap.size x0 x1 x2 x3 r6 (.slice a1 n1 c1) L6 O z1) v W [1] := hp
    clear hp
    simp only [putAll, Act.put, List.setIfInBounds_toArray, List.set_cons_zero, List.set_cons_succ, Nat.reduceAdd] at hKK ⊢
    obtain ⟨p1, _⟩ := hp1
    have e1 : v 1 = .pointer (some ⟨w.heap.size, 2, none⟩) := p1
    simp only [e1] at hKK ⊢
    clear p1 e1
    have HBB := hide hB
    clear hB
    have kk := HBB.out.2.1.cell 2 _ rfl
    go_simp
    refine hKK _ _ (Below.refl _ _) HBB.out ?_
    rfl
  refine EachL.one _ _ _ ?_ ?_
  · intro v W hB hp KK hKK
    rw [if_pos (by rfl)]
    have hp1 : AllOf (A7s (w.heap.size + 1) w.heap.size x0 x1 x2 x3 r6 (.slice a1 n1 c1) L6 O z1) v W [2] := hp
    clear hp
    simp only [putAll, Act.put, List.setIfInBounds_toArray, List.set_cons_zero, List.set_cons_succ, Nat.reduceAdd] at hKK ⊢
    obtain ⟨p2, _⟩ := hp1
    have e2 : v 2 = .int .i64 x2 := p2
    simp only [e2] at hKK ⊢
    clear p2 e2
    have HBB := hide hB
    clear hB
    have CP : Calls Tryd.prog 54 #[.int .i64 x2, .int .i64 4] W fun e w2 => ∃ u : Value, e = .returned u ∧ OwnB w2 W.heap.size u (putL x2 4) ∧ Below W.heap.size W w2 := l03Put_walk x2 4 _ hx2 (by omega)
    go_simp
    refine CP.mono ?_
    clear CP
    rintro e w2 ⟨u, rfl, ho, hb⟩
    go_simp
    refine hKK _ _ hb (HBB.out.next hb) ?_
    exact ho.low HBB.out.lt
  refine EachL.one _ _ _ ?_ ?_
  · intro v W hB hp KK hKK
    rw [if_pos (by rfl)]
    have hp1 : AllOf (A7s (w.heap.size + 1) w.heap.size x0 x1 x2 x3 r6 (.slice a1 n1 c1) L6 O z1) v W [0, 3, 3] := hp
    clear hp
    simp only [putAll, Act.put, List.setIfInBounds_toArray, List.set_cons_zero, List.set_cons_succ, Nat.reduceAdd] at hKK ⊢
    obtain ⟨p0, p3, _, _⟩ := hp1
    have o0 : OwnB W (w.heap.size + 1) (v 0) (L6) := p0
    have o3 : OwnB W (w.heap.size + 1) (v 3) (putL x2 4) := p3
    clear p0 p3 
    have HBB := hide hB
    clear hB
    have HA_ := hide o0; have HB_ := hide o3
    clear o0 o3
    go_simp
    refine (l01Join_from _ _ _ _ (w.heap.size + 1) (L6) (putL x2 4) W HBB.out.lt HA_.out HB_.out (by have h1 := HL6.out; have h2 := HOn.out; have h3 := HZ1.out; have h4 := HON.out; first | omega | (rw [putL_len]; omega) | (rw [List.length_append, putL_len]; omega) | (rw [List.length_append]; omega) | (rw [List.length_append]; simp; omega) | simp) (by have h1 := HL6.out; have h2 := HOn.out; have h3 := HZ1.out; have h4 := HON.out; first | omega | (rw [putL_len]; omega) | (rw [List.length_append, putL_len]; omega) | (rw [List.length_append]; omega) | (rw [List.length_append]; simp; omega) | simp)).mono ?_
    rintro e w2 ⟨r, rfl, ho, hb⟩
    go_simp
    refine hKK _ _ hb (HBB.out.next hb) ?_
    exact ho
  refine EachL.one _ _ _ ?_ ?_
  · intro v W hB hp KK hKK
    rw [if_pos (by rfl)]
    have hp1 : AllOf (A7s (w.heap.size + 1) w.heap.size x0 x1 x2 x3 r6 (.slice a1 n1 c1) L6 O z1) v W [] := hp
    clear hp
    simp only [putAll, Act.put, List.setIfInBounds_toArray, List.set_cons_zero, List.set_cons_succ, Nat.reduceAdd] at hKK ⊢
    have HBB := hide hB
    clear hB
    go_simp
    refine hKK _ _ (Below.refl _ _) HBB.out ?_
    rfl
  refine EachL.one _ _ _ ?_ ?_
  · intro v W hB hp KK hKK
    rw [if_pos (by rfl)]
    have hp1 : AllOf (A7s (w.heap.size + 1) w.heap.size x0 x1 x2 x3 r6 (.slice a1 n1 c1) L6 O z1) v W [5] := hp
    clear hp
    simp only [putAll, Act.put, List.setIfInBounds_toArray, List.set_cons_zero, List.set_cons_succ, Nat.reduceAdd] at hKK ⊢
    obtain ⟨p5, _⟩ := hp1
    have e5 : v 5 = .pointer (some ⟨w.heap.size, 3, none⟩) := p5
    simp only [e5] at hKK ⊢
    clear p5 e5
    have HBB := hide hB
    clear hB
    have kk := HBB.out.2.1.cell 3 _ rfl
    go_simp
    refine hKK _ _ (Below.refl _ _) HBB.out ?_
    rfl
  refine EachL.one _ _ _ ?_ ?_
  · intro v W hB hp KK hKK
    rw [if_pos (by rfl)]
    have hp1 : AllOf (A7s (w.heap.size + 1) w.heap.size x0 x1 x2 x3 r6 (.slice a1 n1 c1) L6 O z1) v W [6, 4] := hp
    clear hp
    simp only [putAll, Act.put, List.setIfInBounds_toArray, List.set_cons_zero, List.set_cons_succ, Nat.reduceAdd] at hKK ⊢
    obtain ⟨p6, p4, _⟩ := hp1
    have e6 : v 6 = .int .i64 x3 := p6
    have o4 : OwnB W (w.heap.size + 1) (v 4) (L6 ++ putL x2 4) := p4
    simp only [e6] at hKK ⊢
    clear p6 p4 e6
    have HBB := hide hB
    clear hB
    have CP : Calls Tryd.prog 54 #[.int .i64 x3, .int .i64 4] W fun e w2 => ∃ u : Value, e = .returned u ∧ OwnB w2 W.heap.size u (putL x3 4) ∧ Below W.heap.size W w2 := l03Put_walk x3 4 _ hx3 (by omega)
    go_simp
    refine CP.mono ?_
    clear CP
    rintro e w2 ⟨u, rfl, ho, hb⟩
    go_simp
    refine hKK _ _ hb (HBB.out.next hb) ?_
    exact ho.low HBB.out.lt
  refine EachL.one _ _ _ ?_ ?_
  · intro v W hB hp KK hKK
    rw [if_pos (by rfl)]
    have hp1 : AllOf (A7s (w.heap.size + 1) w.heap.size x0 x1 x2 x3 r6 (.slice a1 n1 c1) L6 O z1) v W [4, 7, 7] := hp
    clear hp
    simp only [putAll, Act.put, List.setIfInBounds_toArray, List.set_cons_zero, List.set_cons_succ, Nat.reduceAdd] at hKK ⊢
    obtain ⟨p4, p7, _, _⟩ := hp1
    have o4 : OwnB W (w.heap.size + 1) (v 4) (L6 ++ putL x2 4) := p4
    have o7 : OwnB W (w.heap.size + 1) (v 7) (putL x3 4) := p7
    clear p4 p7 
    have HBB := hide hB
    clear hB
    have HA_ := hide o4; have HB_ := hide o7
    clear o4 o7
    go_simp
    refine (l01Join_from _ _ _ _ (w.heap.size + 1) (L6 ++ putL x2 4) (putL x3 4) W HBB.out.lt HA_.out HB_.out (by have h1 := HL6.out; have h2 := HOn.out; have h3 := HZ1.out; have h4 := HON.out; first | omega | (rw [putL_len]; omega) | (rw [List.length_append, putL_len]; omega) | (rw [List.length_append]; omega) | (rw [List.length_append]; simp; omega) | simp) (by have h1 := HL6.out; have h2 := HOn.out; have h3 := HZ1.out; have h4 := HON.out; first | omega | (rw [putL_len]; omega) | (rw [List.length_append, putL_len]; omega) | (rw [List.length_append]; omega) | (rw [List.length_append]; simp; omega) | simp)).mono ?_
    rintro e w2 ⟨r, rfl, ho, hb⟩
    go_simp
    refine hKK _ _ hb (HBB.out.next hb) ?_
    exact ho
  · exact trivial
  intro v W hB hA KK hKK
  rw [if_pos (by rfl)]
  simp only [List.dropLast, putAll, Act.put, List.setIfInBounds_toArray, List.set_cons_zero, List.set_cons_succ, Nat.reduceAdd]
  have oo : OwnB W (w.heap.size + 1) (v 8) (L6 ++ putL x2 4 ++ putL x3 4) := hA 8 (by decide)
  clear hA
  generalize v 0 = y0; generalize v 1 = y1; generalize v 2 = y2; generalize v 3 = y3; generalize v 4 = y4; generalize v 5 = y5; generalize v 6 = y6; generalize v 7 = y7
  generalize v 8 = r7 at *
  have HN := hide (hB.put oo)
  clear hB oo
  go_simp
  refine hKK _ _ ?_
  clear hKK
  clear HS6
  have HS7 := HN
  clear HN
  generalize hL7 : L6 ++ putL x2 4 ++ putL x3 4 = L7 at HS7
  have HL7 : Hid (L7.length ≤ 12) := hide (by rw [← hL7]; rw [List.length_append, List.length_append, putL_len, putL_len]; have := HL6.out; omega)
  have HL7s : Hid (12 ≤ L7.length) := hide (by have := HL6s.out; rw [← hL7]; rw [List.length_append, List.length_append, putL_len, putL_len]; have := HL6.out; omega)
  have HL7e := hide hL7
  clear hL7
  have k4 := HS7.out.2.1.cell 4 _ rfl
  have hw1 : IntKind.i64.wrap (20 + (on : Int)) = 20 + (on : Int) := by have := HOn.out; rw [IntKind.wrap_i64]; omega
  have hw4 : IntKind.u8.wrap x4 = x4 := by rw [IntKind.wrap_u8]; omega
  go_wp2_with fail
  have hal : Below W.heap.size W (W.alloc (.cells #[.int .u8 ((20 + (on : Int)) / 4 * 16 % 256), .int .u8 x4] 5)) := (Below.refl _ _).alloc (Nat.le_refl _) _
  have HL : Hid (OwnB (W.alloc (.cells #[.int .u8 ((20 + (on : Int)) / 4 * 16 % 256), .int .u8 x4] 5)) (w.heap.size + 1) (.slice (some ⟨W.heap.size, 0, none⟩) 2 2) [(20 + (on : Int)) / 4 * 16 % 256, x4]) := hide ((litb_own W [(20 + (on : Int)) / 4 * 16 % 256, x4] (by intro y hy; simp at hy; omega) (by simp)).low HS7.out.lt)
  have HS8 := hide (HS7.out.next hal)
  clear hal k4 hw1 hw4 HS7
  generalize W.alloc (.cells #[.int .u8 ((20 + (on : Int)) / 4 * 16 % 256), .int .u8 x4] 5) = W8 at *
  generalize W.heap.size = q8 at *
  generalize hhb : (20 + (on : Int)) / 4 * 16 % 256 = hb8 at *
  have HHB := hide hhb
  clear hhb
  refine (l01Join_from _ _ _ _ (w.heap.size + 1) L7 [hb8, x4] W8 HS8.out.lt HS8.out.2.2.2.1 HL.out (by have := HL7.out; omega) (by simp)).mono ?_
  rintro e w8 ⟨r8, rfl, ho, hb⟩
  have HS9 := hide ((HS8.out.next hb).put ho)
  clear hb ho HS8 HL
  generalize hL8 : L7 ++ [hb8, x4] = L8 at HS9
  have HL8 : Hid (L8.length ≤ 14) := hide (by rw [← hL8]; rw [List.length_append]; have := HL7.out; simp; omega)
  have HL8s : Hid (14 ≤ L8.length) := hide (by have := HL7s.out; rw [← hL8]; rw [List.length_append]; have := HL7.out; simp; omega)
  have HL8e := hide hL8
  clear hL8
  have k5 := HS9.out.2.1.cell 5 _ rfl
  have CP : Hid (∀ W, Calls Tryd.prog 54 #[.int .i64 x5, .int .i64 2] W fun e w2 => ∃ u : Value, e = .returned u ∧ OwnB w2 W.heap.size u (putL x5 2) ∧ Below W.heap.size W w2) := hide (fun W => l03Put_walk x5 2 W hx5 (by omega))
  go_wp2_with fail
  refine (CP.out _).mono ?_
  clear CP k5
  rintro e w9 ⟨u, rfl, ho, hb⟩
  have HU := hide (ho.low HS9.out.lt)
  replace HS9 := hide (HS9.out.next hb)
  clear ho hb
  go_wp2_with fail
  refine (l01Join_from _ _ _ _ (w.heap.size + 1) L8 (putL x5 2) w9 HS9.out.lt HS9.out.2.2.2.1 HU.out (by have := HL8.out; omega) (by rw [putL_len]; omega)).mono ?_
  rintro e wA ⟨r9, rfl, ho, hb⟩
  have HSA := hide ((HS9.out.next hb).put ho)
  clear hb ho HS9 HU
  generalize hL9 : L8 ++ putL x5 2 = L9 at HSA
  have HL9 : Hid (L9.length ≤ 16) := hide (by rw [← hL9]; rw [List.length_append, putL_len]; have := HL8.out; omega)
  have HL9s : Hid (16 ≤ L9.length) := hide (by have := HL8s.out; rw [← hL9]; rw [List.length_append, putL_len]; have := HL8.out; omega)
  have HL9e := hide hL9
  clear hL9
  go_upto_region 10 with fail
  refine wp_region_last3 (fun W W2 => Below W.heap.size W W2) (fun W => EcS w W #[.int .i64 x0, .int .i64 x1, .int .i64 x2, .int .i64 x3, .int .i64 x4, .int .i64 x5, .int .i64 x6, .bool x7, .int .i64 x8, .bool x9, .slice a0 n0 c0, .slice a1 n1 c1] a1 z1 (.slice oa on oc) O r9 L9) (A10s (w.heap.size + 1) w.heap.size x0 x1 x2 x3 r9 (.slice a1 n1 c1) L9 O z1) _ rfl _ rfl (by kernel_rfl) (by kernel_rfl) (by kernel_rfl) (by kernel_rfl) A10s_kept (HSA.out.next (Below.refl _ _).drew) ?_ ?_
  simp only [List.dropLast]
  refine EachL.one _ _ _ ?_ ?_
  · intro v W hB hp KK hKK
    rw [if_pos (by rfl)]
    have hp1 : AllOf (A10s (w.heap.size + 1) w.heap.size x0 x1 x2 x3 r9 (.slice a1 n1 c1) L9 O z1) v W [] := hp
    clear hp
    simp only [putAll, Act.put, List.setIfInBounds_toArray, List.set_cons_zero, List.set_cons_succ, Nat.reduceAdd] at hKK ⊢
    have HBB := hide hB
    clear hB
    go_simp
    refine hKK _ _ (Below.refl _ _) HBB.out ?_
    exact HBB.out.2.2.2.1
  refine EachL.one _ _ _ ?_ ?_
  · intro v W hB hp KK hKK
    rw [if_pos (by rfl)]
    have hp1 : AllOf (A10s (w.heap.size + 1) w.heap.size x0 x1 x2 x3 r9 (.slice a1 n1 c1) L9 O z1) v W [] := hp
    clear hp
    simp only [putAll, Act.put, List.setIfInBounds_toArray, List.set_cons_zero, List.set_cons_succ, Nat.reduceAdd] at hKK ⊢
    have HBB := hide hB
    clear hB
    go_simp
    refine hKK _ _ ((Below.refl _ _).alloc (Nat.le_refl _) _) (HBB.out.next ((Below.refl _ _).alloc (Nat.le_refl _) _)) ?_
    exact (litb_own W [0, 0, 0, 0] (by simp) (by simp)).low HBB.out.lt
  refine EachL.one _ _ _ ?_ ?_
  · intro v W hB hp KK hKK
    rw [if_pos (by rfl)]
    have hp1 : AllOf (A10s (w.heap.size + 1) w.heap.size x0 x1 x2 x3 r9 (.slice a1 n1 c1) L9 O z1) v W [0, 1] := hp
    clear hp
    simp only [putAll, Act.put, List.setIfInBounds_toArray, List.set_cons_zero, List.set_cons_succ, Nat.reduceAdd] at hKK ⊢
    obtain ⟨p0, p1, _⟩ := hp1
    have o0 : OwnB W (w.heap.size + 1) (v 0) (L9) := p0
    have o1 : OwnB W (w.heap.size + 1) (v 1) ([0, 0, 0, 0]) := p1
    clear p0 p1 
    have HBB := hide hB
    clear hB
    have HA_ := hide o0; have HB_ := hide o1
    clear o0 o1
    go_simp
    refine (l01Join_from _ _ _ _ (w.heap.size + 1) (L9) ([0, 0, 0, 0]) W HBB.out.lt HA_.out HB_.out (by have h1 := HL9.out; have h2 := HOn.out; have h3 := HZ1.out; have h4 := HON.out; first | omega | (rw [putL_len]; omega) | (rw [List.length_append, putL_len]; omega) | (rw [List.length_append]; omega) | (rw [List.length_append]; simp; omega) | simp) (by have h1 := HL9.out; have h2 := HOn.out; have h3 := HZ1.out; have h4 := HON.out; first | omega | (rw [putL_len]; omega) | (rw [List.length_append, putL_len]; omega) | (rw [List.length_append]; omega) | (rw [List.length_append]; simp; omega) | simp)).mono ?_
    rintro e w2 ⟨r, rfl, ho, hb⟩
    go_simp
    refine hKK _ _ hb (HBB.out.next hb) ?_
    exact ho
  refine EachL.one _ _ _ ?_ ?_
  · intro v W hB hp KK hKK
    rw [if_pos (by rfl)]
    have hp1 : AllOf (A10s (w.heap.size + 1) w.heap.size x0 x1 x2 x3 r9 (.slice a1 n1 c1) L9 O z1) v W [] := hp
    clear hp
    simp only [putAll, Act.put, List.setIfInBounds_toArray, List.set_cons_zero, List.set_cons_succ, Nat.reduceAdd] at hKK ⊢
    have HBB := hide hB
    clear hB
    go_simp
    refine hKK _ _ (Below.refl _ _) HBB.out ?_
    exact HBB.out.2.2.1
  refine EachL.one _ _ _ ?_ ?_
  · intro v W hB hp KK hKK
    rw [if_pos (by rfl)]
    have hp1 : AllOf (A10s (w.heap.size + 1) w.heap.size x0 x1 x2 x3 r9 (.slice a1 n1 c1) L9 O z1) v W [] := hp
    clear hp
    simp only [putAll, Act.put, List.setIfInBounds_toArray, List.set_cons_zero, List.set_cons_succ, Nat.reduceAdd] at hKK ⊢
    have HBB := hide hB
    clear hB
    go_simp
    refine hKK _ _ (Below.refl _ _) HBB.out ?_
    rfl
  refine EachL.one _ _ _ ?_ ?_
  · intro v W hB hp KK hKK
    rw [if_pos (by rfl)]
    have hp1 : AllOf (A10s (w.heap.size + 1) w.heap.size x0 x1 x2 x3 r9 (.slice a1 n1 c1) L9 O z1) v W [4] := hp
    clear hp
    simp only [putAll, Act.put, List.setIfInBounds_toArray, List.set_cons_zero, List.set_cons_succ, Nat.reduceAdd] at hKK ⊢
    obtain ⟨p4, _⟩ := hp1
    have e4 : v 4 = .pointer (some ⟨w.heap.size, 11, none⟩) := p4
    simp only [e4] at hKK ⊢
    clear p4 e4
    have HBB := hide hB
    clear hB
    have kk := HBB.out.2.1.cell 11 _ rfl
    go_simp
    refine hKK _ _ (Below.refl _ _) HBB.out ?_
    rfl
  refine EachL.one _ _ _ ?_ ?_
  · intro v W hB hp KK hKK
    rw [if_pos (by rfl)]
    have hp1 : AllOf (A10s (w.heap.size + 1) w.heap.size x0 x1 x2 x3 r9 (.slice a1 n1 c1) L9 O z1) v W [3, 5, 2] := hp
    clear hp
    simp only [putAll, Act.put, List.setIfInBounds_toArray, List.set_cons_zero, List.set_cons_succ, Nat.reduceAdd] at hKK ⊢
    obtain ⟨p3, p5, p2, _⟩ := hp1
    have o3 : OwnB W (w.heap.size + 1) (v 3) (O) := p3
    have e5 : v 5 = .slice a1 n1 c1 := p5
    have o2 : OwnB W (w.heap.size + 1) (v 2) (L9 ++ [0, 0, 0, 0]) := p2
    simp only [e5] at hKK ⊢
    clear p3 p5 p2 e5
    have HBB := hide hB
    clear hB
    have HA_ := hide o3
    clear o3 o2
    go_simp
    refine (l01Join_arr _ a1 n1 c1 _ (w.heap.size + 1) (O) z1 W HBB.out.lt HA_.out HZ1.out HBB.out.2.2.2.2 (by have h1 := HL9.out; have h2 := HOn.out; have h3 := HZ1.out; have h4 := HON.out; first | omega | (rw [putL_len]; omega) | (rw [List.length_append, putL_len]; omega) | (rw [List.length_append]; omega) | (rw [List.length_append]; simp; omega) | simp) (by omega)).mono ?_
    rintro e w2 ⟨r, rfl, ho, hb⟩
    go_simp
    refine hKK _ _ hb (HBB.out.next hb) ?_
    exact ho
  refine EachL.one _ _ _ ?_ ?_
  · intro v W hB hp KK hKK
    rw [if_pos (by rfl)]
    have hp1 : AllOf (A10s (w.heap.size + 1) w.heap.size x0 x1 x2 x3 r9 (.slice a1 n1 c1) L9 O z1) v W [2, 6, 6] := hp
    clear hp
    simp only [putAll, Act.put, List.setIfInBounds_toArray, List.set_cons_zero, List.set_cons_succ, Nat.reduceAdd] at hKK ⊢
    obtain ⟨p2, p6, _, _⟩ := hp1
    have o2 : OwnB W (w.heap.size + 1) (v 2) (L9 ++ [0, 0, 0, 0]) := p2
    have o6 : OwnB W (w.heap.size + 1) (v 6) (O ++ z1) := p6
    clear p2 p6 
    have HBB := hide hB
    clear hB
    have HA_ := hide o2; have HB_ := hide o6
    clear o2 o6
    go_simp
    refine (l01Join_from _ _ _ _ (w.heap.size + 1) (L9 ++ [0, 0, 0, 0]) (O ++ z1) W HBB.out.lt HA_.out HB_.out (by have h1 := HL9.out; have h2 := HOn.out; have h3 := HZ1.out; have h4 := HON.out; first | omega | (rw [putL_len]; omega) | (rw [List.length_append, putL_len]; omega) | (rw [List.length_append]; omega) | (rw [List.length_append]; simp; omega) | simp) (by have h1 := HL9.out; have h2 := HOn.out; have h3 := HZ1.out; have h4 := HON.out; first | omega | (rw [putL_len]; omega) | (rw [List.length_append, putL_len]; omega) | (rw [List.length_append]; omega) | (rw [List.length_append]; simp; omega) | simp)).mono ?_
    rintro e w2 ⟨r, rfl, ho, hb⟩
    go_simp
    refine hKK _ _ hb (HBB.out.next hb) ?_
    exact ho
  · exact trivial
  intro v W hB hA KK hKK
  rw [if_pos (by rfl)]
  simp only [List.dropLast, putAll, Act.put, List.setIfInBounds_toArray, List.set_cons_zero, List.set_cons_succ, Nat.reduceAdd]
  have oo : OwnB W (w.heap.size + 1) (v 7) ((L9 ++ [0, 0, 0, 0]) ++ (O ++ z1)) := hA 7 (by decide)
  clear hA
  generalize v 0 = y0; generalize v 1 = y1; generalize v 2 = y2; generalize v 3 = y3; generalize v 4 = y4; generalize v 5 = y5; generalize v 6 = y6
  generalize v 7 = rA at *
  have HN := hide (hB.put oo)
  clear hB oo
  go_simp
  refine hKK _ _ ?_
  clear hKK
  clear HSA
  have HSB := HN
  clear HN
  obtain ⟨ba, bc, hbv, hbarr⟩ := own_slice HSB.out.2.2.2.1
  have hBn : (L9 ++ [0, 0, 0, 0] ++ (O ++ z1)).length ≤ 1000000 := by have h1 := HL9.out; have h2 := HOn.out; have h3 := HZ1.out; have h4 := HON.out; simp only [List.length_append, List.length_cons, List.length_nil]; omega
  generalize hLB : L9 ++ [0, 0, 0, 0] ++ (O ++ z1) = LB at *
  have HLBe := hide hLB
  clear hLB
  have hBb := HSB.out.2.2.2.1.2
  have hfb := fsum_bd s d 6 LB hBb
  have hL18 : 18 ≤ LB.length := by have h5 := HL9s.out; rw [← HLBe.out]; simp only [List.length_append, List.length_cons, List.length_nil]; omega
  generalize hbn : LB.length = bn at *
  have HBN := hide hbn
  subst hbv
  have CS := hide (l10Sum_walk ba bn bc s d 6 LB W HBN.out hbarr hBn)
  clear hbn hbarr hBb
  go_wp2_with fail
  refine CS.out.mono ?_
  clear CS
  rintro e wS ⟨rfl, hb⟩
  replace HSB := hide (HSB.out.next hb)
  clear hb
  generalize hF : fsum s d 6 LB = F at *
  have HF : Hid ((LB.set 16 (F / 256)).set 17 (F % 256) = sgW x0 x1 x2 x3 x4 x5 O z1 s d) := hide (by
    have e : sgB x0 x1 x2 x3 x4 x5 O z1 = LB := by unfold sgB; rw [HON.out, HHB.out, ← HLBe.out, ← HL9e.out, ← HL8e.out, ← HL7e.out, ← HL6e.out]
    unfold sgW; rw [e, hF])
  clear hF
  obtain ⟨gb, hgb⟩ : ∃ gb, ba = some ⟨gb, 0, none⟩ := by
    rcases HSB.out.2.2.2.1.1.2 with ⟨hv, h0⟩ | ⟨g2, c2, cur, hv, _⟩
    · rw [HBN.out] at h0; omega
    · exact ⟨g2, by injection hv⟩
  subst hgb
  obtain ⟨cx, hcx⟩ := own_cx HSB.out.2.2.2.1 HBN.out 16 (by omega)
  have hfx := own_fz HSB.out.2.2.2.1 16
  have hst := HSB.out.2.2.2.1.store HBN.out 16 (F / 256) (by omega) (by omega)
  have hBe := hst.1
  have hlenB : (LB.set 16 (F / 256)).length = bn := by rw [List.length_set]; exact HBN.out
  obtain ⟨cy, hcy⟩ := own_cx hst.1 hlenB 17 (by omega)
  have hfy := own_fz hst.1 17
  have hst2 := hst.1.store hlenB 17 (F % 256) (by omega) (by omega)
  have hgN : w.heap.size + 1 ≤ gb := (HSB.out.2.2.2.1.1.lt gb rfl).1
  have hbz : Below w.heap.size w ((wS.setCell ⟨gb, 16, none⟩ (.int .u8 (F / 256))).setCell ⟨gb, 17, none⟩ (.int .u8 (F % 256))) := (HSB.out.1.setCell (p := ⟨gb, 16, none⟩) (show w.heap.size ≤ gb by omega) _).setCell (p := ⟨gb, 17, none⟩) (show w.heap.size ≤ gb by omega) _
  have HZZ := hide hbz
  have HOO := hide (OwnB.low hst2.1 (show w.heap.size ≤ w.heap.size + 1 by omega))
  have i16 : (16 : Int) < (bn : Int) := by omega
  have i17 : (17 : Int) < (bn : Int) := by omega
  have s8 : F / 256 % 256 = F / 256 := by omega
  clear hst hst2 hbz hBe
  go_wp2_with fail
  go_ret2
  exact ⟨_, rfl, by rw [← HF.out]; exact HOO.out, HZZ.out⟩

set_option maxHeartbeats 8000000 in
theorem specEncS_size (x0 x1 x2 x3 x4 x5 x6 : Int) (x7 : Bool) (x8 : Int) (x9 : Bool) (a0 : Option Addr) (n0 c0 : Nat) (a1 : Option Addr) (n1 c1 : Nat) (s d : Int) (z z1 : List Int) (w : World) (hz : z.length = n0 * 2) (ha : ArrI w a0 z) (m0 : n0 ≤ 1048576) (hz1 : z1.length = n1) (ha1 : Arr w a1 z1) (m1 : n1 ≤ 1048576) (h : sgV x0 x1 x2 x3 x4 x5 x6 x7 x8 n0 z s d = true) (hx0 : 0 ≤ x0) (hx1 : 0 ≤ x1) (hx2 : 0 ≤ x2) (hx3 : 0 ≤ x3) (hx40 : 0 ≤ x4) (hx41 : x4 ≤ 63) (hx5 : 0 ≤ x5) (h6 : 0 ≤ x6) (h80 : 0 ≤ x8) (h81 : x8 ≤ 14) (h3 : n0 ≤ 3) (hzb : ∀ q, q < z.length → 0 ≤ z.getD q 0) (O : List Int) (hO : segO x6 x7 x8 x9 n0 z = O) (hOl : O.length ≤ 60) (hsize : 65515 < 20 + O.length + n1) :
    Calls Tryd.prog 19 #[.agg #[.int .i64 x0, .int .i64 x1, .int .i64 x2, .int .i64 x3, .int .i64 x4, .int .i64 x5, .int .i64 x6, .bool x7, .int .i64 x8, .bool x9, .slice a0 n0 c0, .slice a1 n1 c1], .int .i64 s, .int .i64 d] w fun e w' => e = .returned (.tuple #[.slice none 0 0, .int .i64 7]) ∧ Below w.heap.size w w' := by
  have HB : Hid (HoldV (w.alloc (.cells #[.int .i64 x0, .int .i64 x1, .int .i64 x2, .int .i64 x3, .int .i64 x4, .int .i64 x5, .int .i64 x6, .bool x7, .int .i64 x8, .bool x9, .slice a0 n0 c0, .slice a1 n1 c1] sgT)) w.heap.size _ sgT) := hide (heap_alloc_new _ _)
  have HW := hide ((Below.refl w.heap.size w).alloc (Nat.le_refl _) (.cells #[.int .i64 x0, .int .i64 x1, .int .i64 x2, .int .i64 x3, .int .i64 x4, .int .i64 x5, .int .i64 x6, .bool x7, .int .i64 x8, .bool x9, .slice a0 n0 c0, .slice a1 n1 c1] sgT))
  have HV := hide (l11OK_walk x0 x1 x2 x3 x4 x5 x6 x7 x8 x9 a0 n0 c0 a1 n1 c1 z _ hz (ha.below HW.out (Nat.le_refl _)) m0)
  have HA := hide (ha.below HW.out (Nat.le_refl _))
  have HD := hide (ha1.below HW.out (Nat.le_refl _))
  have k0 := HB.out.cell 0 _ rfl; have k1 := HB.out.cell 1 _ rfl; have k2 := HB.out.cell 2 _ rfl; have k3 := HB.out.cell 3 _ rfl; have k4 := HB.out.cell 4 _ rfl; have k5 := HB.out.cell 5 _ rfl; have k6 := HB.out.cell 6 _ rfl; have k7 := HB.out.cell 7 _ rfl; have k8 := HB.out.cell 8 _ rfl; have k9 := HB.out.cell 9 _ rfl; have k10 := HB.out.cell 10 _ rfl; have k11 := HB.out.cell 11 _ rfl
  have hparts : sgOK x0 x1 x2 x3 x4 x5 x6 x7 x8 n0 z = true ∧ adrB s = true ∧ adrB d = true := by unfold sgV at h; simp only [Bool.and_eq_true] at h; exact ⟨h.1.1, h.1.2, h.2⟩
  obtain ⟨hok, hs, hd⟩ := hparts
  rw [hok] at HV
  have HZ := hide hz; have HZ1 := hide hz1; have HZB := hide hzb; have HOn := hide hOl; have HLn : Hid (0 ≤ 0) := hide (Nat.le_refl 0)
  clear ha ha1 hz hz1 hzb h hok hOl
  go_enter Tryd.func19, Tryd.ntmps19
  go_wp2_with fail
  refine HV.out.mono ?_
  rintro e w1 ⟨rfl, hb1⟩
  replace HB := hide (HB.out.next hb1)
  replace HW := hide (below_on HW.out hb1)
  replace HA := hide (HA.out.below hb1 (Nat.le_refl _))
  replace HD := hide (HD.out.below hb1 (Nat.le_refl _))
  clear hb1 HV k0 k1 k2 k3 k4 k5 k6 k7 k8 k9 k10 k11
  have k0 := HB.out.cell 0 _ rfl; have k1 := HB.out.cell 1 _ rfl; have k2 := HB.out.cell 2 _ rfl; have k3 := HB.out.cell 3 _ rfl; have k4 := HB.out.cell 4 _ rfl; have k5 := HB.out.cell 5 _ rfl; have k6 := HB.out.cell 6 _ rfl; have k7 := HB.out.cell 7 _ rfl; have k8 := HB.out.cell 8 _ rfl; have k9 := HB.out.cell 9 _ rfl; have k10 := HB.out.cell 10 _ rfl; have k11 := HB.out.cell 11 _ rfl
  have CO := hide (l11Options_walk x0 x1 x2 x3 x4 x5 x6 x7 x8 x9 a0 n0 c0 a1 n1 c1 z w1 HZ.out HA.out h3 h6 h80 h81 HZB.out)
  go_wp2_with (first | (go_at_call 36; refine (specAddrOK_walk _ _).mono ?_; rintro e w2 ⟨rfl, rfl⟩))
  refine CO.out.mono ?_
  clear CO k0 k1 k2 k3 k4 k5 k6 k7 k8 k9 k10 k11
  rintro e w2 ⟨vo, rfl, ho, hb1⟩
  rw [hO] at ho
  obtain ⟨oa, oc, hov, _⟩ := own_slice ho
  have hlt := HB.out.lt
  have HS : Hid (EcS w w2 #[.int .i64 x0, .int .i64 x1, .int .i64 x2, .int .i64 x3, .int .i64 x4, .int .i64 x5, .int .i64 x6, .bool x7, .int .i64 x8, .bool x9, .slice a0 n0 c0, .slice a1 n1 c1] a1 z1 vo O (.slice none 0 0) []) := hide ⟨below_on HW.out hb1, HB.out.next hb1, ho.low (by omega), ⟨World.ownsRow_nil _ _ _ _, by simp⟩, HD.out.below hb1 (Nat.le_refl _)⟩
  clear hb1 ho HB HW HA HD hO
  generalize hon : O.length = on at *
  subst hov
  have HON := hide hon
  clear hon
  have k11 := HS.out.2.1.cell 11 _ rfl
  have hw1 : IntKind.i64.wrap (20 + (on : Int)) = 20 + (on : Int) := by have := HOn.out; rw [IntKind.wrap_i64]; omega
  have hw2 : IntKind.i64.wrap (20 + (on : Int) + (n1 : Int)) = 20 + (on : Int) + (n1 : Int) := by have := HOn.out; rw [IntKind.wrap_i64]; omega
  have hsz : (65515 : Int) < 20 + (on : Int) + (n1 : Int) := by omega
  go_wp2_with fail
  go_ret2
  exact ⟨rfl, HS.out.1⟩
end Go.Proofs.YthcmgnhfgplajaaDoor
