/-
Contracts of functions of this seat.
-/
import Derived.Test.YthcmgnhfgplajaaDoorRows
import Derived.WalkKit
import Derived.ProofKit
import Derived.OpenShut
import Derived.Test.YthcmgnhfgplajaaDoorSg4
import Derived.Deep.AppendLies
import Derived.Laws.AppendOwnNone
namespace Go.Proofs.YthcmgnhfgplajaaDoor
open Go.ChangeShapes Go.WideShapes Go.ChangeAt Go.RowKit
set_option linter.unusedVariables false
set_option maxRecDepth 100000
/-- numberBytes of the program. -/
theorem numberBytes_walk (v : Int) (k : Nat) (w : World) (hk : k ≤ 8) :
    Calls Tryd.prog 95 #[.int .i64 v, .int .i64 (k : Int)] w fun e w' => e = .returned (.slice (some ⟨w.heap.size, 0, none⟩) k k) ∧ RowB w' w.heap.size (putL v k) ∧ Below w.heap.size w w' := by
  have rm := run_bytes k w (by omega)
  have hrow : RowB (w.alloc (.cells (bval (List.replicate k 0)).toArray 5)) w.heap.size (List.replicate k 0) := heap_alloc_new _ _
  have HW := hide ((Below.refl w.heap.size w).alloc (Nat.le_refl _) (.cells (bval (List.replicate k 0)).toArray 5))
  have CN := hide (putNumber_at w.heap.size 0 k k v (List.replicate k 0) _ hk hrow (by simp))
  clear hrow
  generalize hW : w.alloc (.cells (bval (List.replicate k 0)).toArray 5) = W at *
  clear hW
  go_enter Tryd.func95, Tryd.ntmps95
  go_wp2_with fail
  refine CN.out.mono ?_
  rintro e w1 ⟨rfl, hr, hg⟩
  rw [splice_all _ _ (by simp [putL_len])] at hr
  have HR := hide hr
  have HB := hide (HW.out.grown hg HW.out.size (fun k hk => by cases hk; exact Nat.le_refl _))
  clear hr hg
  go_wp2_with fail
  go_ret
  exact ⟨rfl, HR.out, HB.out⟩
theorem numberBytes_own (v : Int) (k : Nat) (w : World) (hk : k ≤ 8) :
    Calls Tryd.prog 95 #[.int .i64 v, .int .i64 (k : Int)] w fun e w' => e = .returned (.slice (some ⟨w.heap.size, 0, none⟩) k k) ∧ Arr w' (some ⟨w.heap.size, 0, none⟩) (putL v k) ∧ Below w.heap.size w w' := by
  refine (numberBytes_walk v k w hk).mono ?_
  rintro e w' ⟨rfl, hr, hb⟩
  exact ⟨rfl, hr.arr (putL_bd v k), hb⟩
theorem own_app_arr {w w' : World} {B : Nat} {v v' : Value} {xs ys : List Int} (h : OwnB w B v xs) (hy : ∀ q ∈ ys, 0 ≤ q ∧ q ≤ 255) (ho : w'.ownsRow B 5 1 v' (xs.length + ys.length) (bval xs ++ bval ys)) : OwnB w' B v' (xs ++ ys) := OwnB.app ho rfl h.2 hy
set_option maxHeartbeats 8000000 in
theorem stretchBytes_walk (a0 : Option Addr) (n0 c0 : Nat) (z : List Int) (w : World) (hz : z.length = n0 * 2) (ha : ArrI w a0 z) (m0 : n0 ≤ 3) :
    Calls Tryd.prog 96 #[.slice a0 n0 c0] w fun e w' => ∃ v : Value, e = .returned v ∧ OwnB w' w.heap.size v (sgO5 z) ∧ Below w.heap.size w w' := by
  obtain ⟨i, hi, hz0, hz1, hz2⟩ := info_parts Tryd.infoB
  have HA := hide ha
  have HZ := hide hz
  clear hz ha
  go_enter Tryd.func96, Tryd.ntmps96
  go_wp2_with fail
  go_loopw [3, 8] (fun o t w2 => ∃ k : Nat, k ≤ n0 ∧ t = .int .i64 (k : Int) ∧ Hid (OwnB w2 w.heap.size o (sgO5 (z.take (k * 2)))) ∧ Hid (Below w.heap.size w w2)) (fun _ t _ => n0 - (intOf t).toNat)
  case atStart => exact ⟨0, Nat.zero_le _, rfl, hide ⟨by rw [Nat.zero_mul, List.take_zero]; exact World.ownsRow_nil _ _ _ _, by simp [sgO5]⟩, hide (Below.refl _ _)⟩
  case round =>
    obtain ⟨k, hk, rfl, HO, HW⟩ := hrel
    by_cases hlt : k < n0
    · obtain ⟨b, off, rfl, hb1, hc1⟩ := HA.out (k * 2) (by have := HZ.out; omega)
      obtain ⟨b2, off2, e2, hb2, hc2⟩ := HA.out (k * 2 + 1) (by have := HZ.out; omega)
      injection e2 with e2; injection e2 with e3 e4; subst e3 e4
      have hc1' : wr.cell? ⟨b, off + k * 2, none⟩ = some (.int .i64 (z.getD (k * 2) 0)) := by rw [HW.out.cell (p := ⟨b, off + k * 2, none⟩) hb1]; exact hc1
      have hc3 : wr.cell? ⟨b, off + k * 2 + 1, none⟩ = some (.int .i64 (z.getD (k * 2 + 1) 0)) := by rw [HW.out.cell (p := ⟨b, off + k * 2 + 1, none⟩) hb2]; exact hc2
      have HT : Hid (sgO5 (z.take ((k + 1) * 2)) = sgO5 (z.take (k * 2)) ++ putL (z.getD (k * 2) 0) 4 ++ putL (z.getD (k * 2 + 1) 0) 4) := hide (sgO5_two z k (by have := HZ.out; omega))
      have HLN : Hid ((sgO5 (z.take (k * 2))).length ≤ 24) := hide (by rw [sgO5_len, List.length_take]; omega)
      clear hc1 hc2
      generalize z.getD (k * 2) 0 = u at *
      generalize z.getD (k * 2 + 1) 0 = v at *
      generalize sgO5 (z.take (k * 2)) = L at *
      have HV : Hid (HoldV (wr.alloc (.cells #[.int .i64 u, .int .i64 v] 53)) wr.heap.size _ 53) := hide (heap_alloc_new _ _)
      have HB2 : Hid (Below wr.heap.size wr (wr.alloc (.cells #[.int .i64 u, .int .i64 v] 53))) := hide ((Below.refl _ _).alloc (Nat.le_refl _) _)
      have kk0 := HV.out.cell 0 _ rfl
      have kk1 := HV.out.cell 1 _ rfl
      have HLT : Hid (∀ k, u3.ownBlock = some k → k < wr.heap.size) := hide (fun k hk => (HO.out.1.lt k hk).2)
      have C1 := hide (numberBytes_own u 4 (wr.alloc (.cells #[.int .i64 u, .int .i64 v] 53)) (by omega))
      go_wp2_with fail
      refine C1.out.mono ?_
      rintro e w1 ⟨rfl, hr1, hb1⟩
      have hbW := below_on HB2.out hb1
      have HO1 := hide (HO.out.nx hbW)
      have HV1 := hide (HV.out.next hb1)
      have HW1 := hide (HW.out.trans (hbW.mono HW.out.size))
      have HR1 := hide hr1
      have hlo := HO1.out.1.lt
      clear C1 HV HB2 hb1 hbW HO hr1 kk0 kk1
      generalize (wr.alloc (.cells #[.int .i64 u, .int .i64 v] 53)).heap.size = G at *
      go_wp2_with (first | (at_builtin; refine wpList_append_own _ rfl _ _ 23 rfl w.heap.size 5 i _ 1 1 Tryd.underlying23 hi hz0 hz1 hz2 rfl (by decide) u3 L.length (bval L) rfl HO1.out.1 ⟨G, 0, none⟩ 4 4 (bval (putL u 4)) rfl (by simp [bval, putL_len]) (news_arr HR1.out) (oneCells _) (by have := HLN.out; unfold maxLen; omega) (by have := HLN.out; omega) HW1.out.size ?_))
      intro v1 w2 hown1 hgrow1 hnil1
      have HO2 := hide (own_app_arr HO1.out (putL_bd u 4) (by rw [putL_len]; exact hown1))
      have HW2 := hide (HW1.out.grown hgrow1 HW1.out.size (fun k hk => (hlo k hk).1))
      have HV2 : Hid (HoldV w2 wr.heap.size #[.int .i64 u, .int .i64 v] 53) := hide ((hgrow1.block _ HV1.out.lt (fun e => by have := HLT.out _ e.symm; omega)).trans HV1.out)
      have HL1 : Hid ((L ++ putL u 4).length = L.length + 4) := hide (by simp [putL_len])
      clear hown1 hgrow1 hnil1 hlo HV1 HR1 HO1 HW1 HLT
      have kk0 := HV2.out.cell 0 _ rfl
      have kk1 := HV2.out.cell 1 _ rfl
      have C2 := hide (numberBytes_own v 4 w2 (by omega))
      go_wp2_with fail
      refine C2.out.mono ?_
      rintro e w3 ⟨rfl, hr3, hb3⟩
      have HO3 := hide (HO2.out.nx hb3)
      have HW3 := hide (below_on HW2.out hb3)
      have HR3 := hide hr3
      have hlo := HO3.out.1.lt
      clear C2 hb3 hr3 kk0 kk1 HO2 HW2 HV2
      generalize w2.heap.size = G2 at *
      go_wp2_with (first | (at_builtin; refine wpList_append_own _ rfl _ _ 23 rfl w.heap.size 5 i _ 1 1 Tryd.underlying23 hi hz0 hz1 hz2 rfl (by decide) v1 (L ++ putL u 4).length (bval (L ++ putL u 4)) rfl HO3.out.1 ⟨G2, 0, none⟩ 4 4 (bval (putL v 4)) rfl (by simp [bval, putL_len]) (news_arr HR3.out) (oneCells _) (by have := HLN.out; have := HL1.out; unfold maxLen; omega) (by have := HLN.out; have := HL1.out; omega) HW3.out.size ?_))
      intro v2 w4 hown2 hgrow2 hnil2
      have HO4 := hide (own_app_arr HO3.out (putL_bd v 4) (by rw [putL_len, List.length_append]; exact hown2))
      have HW4 := hide (HW3.out.grown hgrow2 HW3.out.size (fun k hk => (hlo k hk).1))
      clear hown2 hgrow2 hnil2 hlo HO3 HW3 HR3
      go_wp2_with fail
      exact ⟨⟨k + 1, by omega, by go_num, hide (by rw [HT.out]; exact HO4.out), HW4⟩, by simp [intOf]; omega⟩
    · have hk' : k = n0 := by omega
      subst hk'
      have HT : Hid (z.take (k * 2) = z) := hide (List.take_of_length_le (by have := HZ.out; omega))
      go_wp2_with fail
      go_ret
      exact ⟨u3, rfl, by have h := HO.out; rw [HT.out] at h; exact h, HW.out⟩
theorem news_lit (w : World) (zs : List Int) : ∀ j u, (bval zs)[j]? = some u → (w.alloc (.cells (bval zs).toArray 5)).cell? ((⟨w.heap.size, 0, none⟩ : Addr).add j) = some u := by
  intro j u hu
  rw [Addr.add_lit, Nat.zero_add]
  refine (cell_of_row _ w.heap.size j _ 5 _ (heap_alloc_new w _)).trans ?_
  simpa using hu
theorem news_any' {w : World} {ad : Addr} {zs : List Int} (h : Arr w (some ad) zs) : ∀ j u, (bval zs)[j]? = some u → w.cell? (ad.add j) = some u := by
  intro j u hu
  have hj : j < zs.length := by
    have := (List.getElem?_eq_some_iff.1 hu).1
    simpa [bval] using this
  obtain ⟨b', off', e, _, hc⟩ := h.2 j hj
  cases e
  rw [bval_get zs j hj] at hu
  rw [Addr.add_lit, hc]; exact hu
def lenV : Value → Nat
  | .slice _ n _ => n
  | _ => 0
/-- From w to w2 only the row v0 was written, of what was there; o is it, or new. -/
def GrF (w w2 : World) (v0 o : Value) : Prop := Only v0.ownBlock.toList w w2 ∧ ∀ g, o.ownBlock = some g → v0.ownBlock = some g ∨ w.heap.size ≤ g
theorem GrF.step {w w2 w3 : World} {v0 o : Value} {g n c : Nat} (h : GrF w w2 v0 o) (hg : w2.grownBy w3 o.ownBlock) (h' : o.ownBlock = some g ∨ g = w2.heap.size) : GrF w w3 v0 (.slice (some ⟨g, 0, none⟩) n c) := by
  refine ⟨⟨hg.os.trans h.1.os, hg.tape.trans h.1.tape, hg.output.trans h.1.output, Nat.le_trans h.1.size hg.size, fun i hi hn => ?_⟩, fun g2 e => ?_⟩
  · refine (hg.block i (Nat.lt_of_lt_of_le hi h.1.size) (fun e => ?_)).trans (h.1.block i hi hn)
    rcases h.2 i e.symm with h2 | h2
    · exact hn (by rw [h2]; simp)
    · omega
  · have e2 : g = g2 := by simpa [Value.ownBlock] using e
    subst e2
    rcases h' with h' | h'
    · exact h.2 g h'
    · exact .inr (by rw [h']; exact h.1.size)
theorem GrF.alloc {w w2 : World} {v0 o : Value} (h : GrF w w2 v0 o) (ob : Obj) : GrF w (w2.alloc ob) v0 o := ⟨h.1.trans (Only.of_below ((Below.refl _ _).alloc (Nat.le_refl _) ob)), h.2⟩
theorem GrF.start (w : World) (v0 : Value) : GrF w w v0 v0 := ⟨Only.refl _ _, fun _ e => .inl e⟩
theorem GrF.arr {w w2 : World} {v0 o : Value} {a : Option Addr} {zs : List Int} (h : GrF w w2 v0 o) (ha : Arr w a zs) (hb : ∀ j, j < zs.length → ∃ b off, a = some ⟨b, off, none⟩ ∧ v0.ownBlock ≠ some b) : Arr w2 a zs :=
  arr_only ha h.1 (fun j hj => by obtain ⟨b, off, e, hne⟩ := hb j hj; exact ⟨b, off, e, fun hm => hne (by simpa using hm)⟩)
theorem GrF.below {w w2 : World} {v0 o : Value} {B : Nat} {zs : List Int} (h : GrF w w2 v0 o) (hv : OwnB w B v0 zs) (hB : B ≤ w.heap.size) : Below B w w2 := h.1.below (fun x hx => (hv.1.lt x (by simpa using hx)).1) hB
set_option maxHeartbeats 8000000 in
theorem appendOption_walk (v0 : Value) (L : List Int) (c : Int) (a : Option Addr) (m cap p : Nat) (zs : List Int) (B : Nat) (w : World) (hO : OwnB w B v0 L) (hB : B ≤ w.heap.size) (hL : L.length % 4 = 0) (hL2 : L.length ≤ 100) (hm : zs.length = m) (hm2 : m ≤ 200) (ha : Arr w a zs) (hp : p < 4) (hp4 : (m + 2 + p) % 4 = 0) (hc0 : 0 ≤ c) (hc1 : c ≤ 255) (hn : a = none → m = 0 ∧ cap = 0) (hba : ∀ j, j < zs.length → ∃ b off, a = some ⟨b, off, none⟩ ∧ v0.ownBlock ≠ some b) :
    Calls Tryd.prog 94 #[v0, .int .u8 c, .slice a m cap] w fun e w' => ∃ v : Value, e = .returned v ∧ OwnB w' B v (L ++ List.replicate p 1 ++ [c, ((m + 2 : Nat) : Int)] ++ zs) ∧ Below B w w' := by
  obtain ⟨i, hi, hz0, hz1, hz2⟩ := info_parts Tryd.infoB
  have HO := hide hO
  have HM := hide hm
  have HA := hide ha
  have HP := hide hp4
  have HL := hide hL
  have HN := hide hn
  have HBA := hide hba
  have hw2 : IntKind.i64.wrap (2 + (m : Int)) = ((m + 2 : Nat) : Int) := by rw [IntKind.wrap_i64]; omega
  obtain ⟨a0, c0, hv0, _⟩ := own_slice hO
  clear hO hm ha hp4 hL hn hba
  generalize hM2 : m + 2 = M at *
  have hMb : M ≤ 202 := by omega
  have HM2 := hide hM2
  clear hM2
  subst hv0
  go_enter Tryd.func94, Tryd.ntmps94
  go_wp2_with fail
  go_loopw [0] (fun o w2 => ∃ k n a2 c2 : Nat, k ≤ p ∧ n = L.length + k ∧ lenV o = n ∧ Hid (∃ ad, o = .slice ad n c2) ∧ Hid (OwnB w2 B o (L ++ List.replicate k 1)) ∧ Hid (GrF w w2 (.slice a0 L.length c0) o)) (fun o _ => p + L.length - lenV o)
  case atStart => exact ⟨0, L.length, 0, c0, Nat.zero_le _, rfl, rfl, hide ⟨a0, rfl⟩, hide (by rw [List.replicate_zero, List.append_nil]; exact HO.out), hide (GrF.start _ _)⟩
  case round =>
    obtain ⟨k, n, _, c2, hk, hnk, _, HF, HO2, HG⟩ := hrel
    obtain ⟨ad, rfl⟩ := HF.out
    have HNK := hide hnk
    have hnb : n ≤ 104 := by omega
    clear hnk HF
    have HLN : Hid ((L ++ List.replicate k 1).length = n) := hide (by rw [List.length_append, List.length_replicate, HNK.out])
    have HR : Hid (wr.ownsRow B 5 1 (.slice ad n c2) n (bval (L ++ List.replicate k 1))) := hide (by have h := HO2.out.1; rw [HLN.out] at h; exact h)
    have HBD : Hid (∀ q ∈ L ++ List.replicate k 1, 0 ≤ q ∧ q ≤ 255) := hide HO2.out.2
    have HBW : Hid (B ≤ wr.heap.size) := hide (Nat.le_trans hB HG.out.1.size)
    clear HO2
    by_cases hlt : k < p
    · have hq : ¬ ((n : Int) + (M : Int)) % 4 = 0 := by have h1 := HNK.out; have h2 := HL.out; have h3 := HP.out; omega
      have HE : Hid ((L ++ List.replicate k 1) ++ [1] = L ++ List.replicate (k + 1) 1) := hide (by rw [List.replicate_succ', List.append_assoc])
      generalize L ++ List.replicate k 1 = LL at *
      go_wp2_with (first | (at_builtin; refine wpList_append_lies _ rfl _ _ 23 rfl B 5 i _ 1 1 Tryd.underlying23 hi hz0 hz1 hz2 rfl (by decide) (.slice ad n c2) n (bval LL) rfl (HR.out.alloc _) ⟨wr.heap.size, 0, none⟩ 1 1 (bval [1]) rfl rfl (cell_one _ _ _) (oneCells _) (by omega) (by unfold maxLen; omega) (by omega) (by have := HBW.out; rw [World.size_alloc]; omega) _ rfl ?_))
      intro g cap2 w3 hown hgr hor hlt3
      have HG3 := hide ((HG.out.alloc _).step (n := n + 1) (c := cap2) hgr (by rw [World.size_alloc]; exact hor))
      have HO3 : Hid (OwnB w3 B (.slice (some ⟨g, 0, none⟩) (n + 1) cap2) (L ++ List.replicate (k + 1) 1)) := hide (by rw [← HE.out]; exact OwnB.app hown (by simp [HLN.out]) HBD.out (by simp))
      clear hown hgr hor hlt3 HG HR HBD HBW HE
      go_wp2_with fail
      exact ⟨⟨k + 1, n + 1, 0, cap2, by omega, by have := HNK.out; omega, rfl, hide ⟨_, rfl⟩, HO3, HG3⟩, by have h1 := HNK.out; show p + L.length - (n + 1) < p + L.length - n; omega⟩
    · have hq : ((n : Int) + (M : Int)) % 4 = 0 := by have h1 := HNK.out; have h2 := HL.out; have h3 := HP.out; omega
      have hkp : k = p := by omega
      subst hkp
      generalize hLL : L ++ List.replicate k 1 = LL at *
      have HLL := hide hLL
      clear hLL
      go_wp2_with (first | (at_builtin; refine wpList_append_lies _ rfl _ _ 23 rfl B 5 i _ 1 1 Tryd.underlying23 hi hz0 hz1 hz2 rfl (by decide) (.slice ad n c2) n (bval LL) rfl (HR.out.alloc _) ⟨wr.heap.size, 0, none⟩ 2 2 (bval [c, (M : Int)]) rfl rfl (news_lit _ _) (oneCells _) (by omega) (by unfold maxLen; omega) (by omega) (by have := HBW.out; rw [World.size_alloc]; omega) _ rfl ?_))
      intro g cap2 w3 hown hgr hor hlt3
      have HG3 := hide ((HG.out.alloc _).step (n := n + 2) (c := cap2) hgr (by rw [World.size_alloc]; exact hor))
      have HO3 : Hid (OwnB w3 B (.slice (some ⟨g, 0, none⟩) (n + 2) cap2) (LL ++ [c, (M : Int)])) := hide (OwnB.app hown (by simp [HLN.out]) HBD.out (by intro q hq; simp at hq; omega))
      have HR3 : Hid (w3.ownsRow B 5 1 (.slice (some ⟨g, 0, none⟩) (n + 2) cap2) (n + 2) (bval (LL ++ [c, (M : Int)]))) := hide (by have h := HO3.out.1; rw [List.length_append, HLN.out] at h; exact h)
      have HBW3 : Hid (B ≤ w3.heap.size) := hide (Nat.le_trans hB HG3.out.1.size)
      clear hown hgr hor hlt3 HG HR HBD HBW
      cases a with
      | none =>
        obtain ⟨rfl, rfl⟩ := HN.out rfl
        have hzn : zs = [] := List.length_eq_zero_iff.1 HM.out
        subst hzn
        go_wp2_with (first | (at_builtin; refine wpList_append_own_none rfl _ _ 23 rfl B 5 i 1 Tryd.underlying23 hi (.slice (some ⟨g, 0, none⟩) (n + 2) cap2) (n + 2) _ rfl HR3.out rfl ?_))
        go_ret
        exact ⟨_, rfl, by have h := HO3.out; rw [← HLL.out, List.append_assoc] at h; exact h, HG3.out.below HO.out hB⟩
      | some ad2 =>
        have HA3 := hide (HG3.out.arr HA.out HBA.out)
        go_wp2_with (first | (at_builtin; refine wpList_append_own _ rfl _ _ 23 rfl B 5 i _ 1 1 Tryd.underlying23 hi hz0 hz1 hz2 rfl (by decide) (.slice (some ⟨g, 0, none⟩) (n + 2) cap2) (n + 2) (bval (LL ++ [c, (M : Int)])) rfl HR3.out ad2 m cap (bval zs) rfl (by unfold bval; rw [List.length_map, HM.out]; omega) (news_any' HA3.out) (oneCells _) (by unfold maxLen; omega) (by omega) HBW3.out ?_))
        intro v' w4 hown4 hgr4 _
        have HO4 := hide (OwnB.app (xs := LL ++ [c, (M : Int)]) (ys := zs) hown4 (by rw [List.length_append, HLN.out, HM.out]; rfl) HO3.out.2 HA.out.1)
        have HB4 := hide ((HG3.out.below HO.out hB).grown hgr4 HBW3.out (fun k hk => (HR3.out.lt k hk).1))
        clear hown4 hgr4
        go_wp2_with fail
        go_ret
        exact ⟨_, rfl, by have h := HO4.out; rw [← HLL.out] at h; exact h, HB4.out⟩
end Go.Proofs.YthcmgnhfgplajaaDoor
