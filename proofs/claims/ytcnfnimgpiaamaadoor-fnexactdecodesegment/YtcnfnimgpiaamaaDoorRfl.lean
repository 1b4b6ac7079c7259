/-
Contracts of functions of this seat.
-/
import Derived.Test.YtcnfnimgpiaamaaDoorRows
import Derived.WalkKit
import Derived.ProofKit
import Derived.OpenShut
import Derived.Test.YtcnfnimgpiaamaaDoorSd1
namespace Go.Proofs.YtcnfnimgpiaamaaDoor
open Go.ChangeShapes Go.WideShapes Go.ChangeAt Go.RowKit
set_option linter.unusedVariables false
set_option maxRecDepth 100000
section
variable {P : Program} {ops : Array Oper} {Q : Exit → Act → World → Prop} (R : Nat → World → World → Prop) (B : (Nat → Bool) → World → Prop) (A : Nat → Value → World → Prop)
/-- The same where the last operation may write what another one reads: the values of all but it are laid. -/
def EachOpF (P : Program) (ops : Array Oper) (Q : Exit → Act → World → Prop) (R : Nat → World → World → Prop) (B : (Nat → Bool) → World → Prop) (A : Nat → Value → World → Prop) (a : Act) (l : List Oper) (i : Nat) (o : Oper) : Prop :=
  ∀ (v : Nat → Value) (w : World) (f : Nat → Bool), f i = false → B f w → AllOf A v w (predsOf o) → ∀ K : Act → World → Prop, (∀ u w', R i w w' → B (fun k => if k = i then true else f k) w' → A i u w' → K ((putAll v 0 l a).put o.dst u) w') →
    if Region.wanted o (yielded ops (putAll v 0 l a).tmps) = true then Oper.wp P o (putAll v 0 l a) w K Q else K ((putAll v 0 l a).put o.dst undef) w
def EachOpsF (P : Program) (ops : Array Oper) (Q : Exit → Act → World → Prop) (R : Nat → World → World → Prop) (B : (Nat → Bool) → World → Prop) (A : Nat → Value → World → Prop) (a : Act) (l : List Oper) : Nat → List Oper → Prop
  | _, [] => True
  | i, o :: r => EachOpF P ops Q R B A a l i o ∧ EachOpsF P ops Q R B A a l (i + 1) r
theorem eachOpsF_get {a : Act} (l0 : List Oper) : ∀ (l : List Oper) (k i : Nat) (o : Oper), EachOpsF P ops Q R B A a l0 k l → l[i]? = some o → EachOpF P ops Q R B A a l0 (k + i) o
  | [], _, _, _, _, h => by simp at h
  | o' :: r, k, 0, o, hd, h => by
    simp only [List.getElem?_cons_zero, Option.some.injEq] at h
    subst h
    exact hd.1
  | o' :: r, k, i + 1, o, hd, h => by
    have := eachOpsF_get l0 r (k + 1) i o hd.2 (by simpa using h)
    rwa [show k + 1 + i = k + (i + 1) by omega] at this
theorem last_anyF {a : Act} (l : List Oper) (ol : Oper) (hops : ops.toList = l ++ [ol]) (hd : dstsApart l = true) (ht : inTurn 0 ops.toList = true) (hcv : covered ops = true) (hst : ∀ i k v w w', i ≠ k → R i w w' → A k v w → A k v w')
    (he : EachOpsF P ops Q R B A a l 0 l) (hl : ∀ v w f, (∀ i, i < l.length → f i = true) → B f w → (∀ i, i < l.length → A i (v i) w) → ∀ K : Act → World → Prop, (∀ a' w', Q .normal a' w' → K a' w') →
      if Region.wanted ol (yielded ops (putAll v 0 l a).tmps) = true then Oper.wp P ol (putAll v 0 l a) w K Q else K ((putAll v 0 l a).put ol.dst undef) w) :
    ∀ (fuel : Nat) (listed : Array Bool) (v : Nat → Value) (w : World), listed.size = ops.size → listed.toList.countP (fun b => !b) ≤ fuel → listed.getD l.length true = false →
      (∀ (k : Nat) (o : Oper), ops[k]? = some o → listed.getD k false = true → ∀ e ∈ o.after, Region.binds .any e = true → listed.getD e.on false = true) → B (fun k => listed.getD k false) w → (∀ i, listed.getD i false = true → A i (v i) w) →
      wpAny P .any ops Q fuel listed (putAll v 0 l a) w := by
  have hsz : ops.size = l.length + 1 := by have := congrArg List.length hops; simpa using this
  have pos : ∀ (listed : Array Bool), listed.size = ops.size → listed.getD l.length true = false → ∃ i, i ∈ Region.ready .any ops listed := by
    intro listed hs h0
    -- the least that has not come up
    have go : ∀ n i, i ≤ n → i < ops.size → listed.getD i true = false → ∃ i, i ∈ Region.ready .any ops listed := by
      intro n
      induction n with
      | zero =>
        intro i hi hi2 hu
        have : i = 0 := by omega
        subst this
        refine ⟨0, mem_ready.2 ⟨hu, ops[0], by simp [hi2], ?_⟩⟩
        intro e he' hb
        have := inTurn_get ops.toList 0 0 ops[0] ht (by simp [hi2]) e he' hb
        omega
      | succ n ih =>
        intro i hi hi2 hu
        by_cases hall : ∀ e ∈ ops[i].after, Region.binds .any e = true → listed.getD e.on false = true
        · exact ⟨i, mem_ready.2 ⟨hu, ops[i], by simp [hi2], hall⟩⟩
        · have : ∃ e, e ∈ ops[i].after ∧ Region.binds .any e = true ∧ ¬ listed.getD e.on false = true := by
            refine Classical.byContradiction (fun hno => hall (fun e h1 h2 => Classical.byContradiction (fun h3 => hno ⟨e, h1, h2, h3⟩)))
          obtain ⟨e, h1, h2, h3⟩ := this
          have h4 := inTurn_get ops.toList 0 i ops[i] ht (by simp [hi2]) e h1 h2
          refine ih e.on (by omega) (by omega) ?_
          have h5 : e.on < listed.size := by omega
          simp [h5] at h3 ⊢
          exact h3
    exact go l.length l.length (Nat.le_refl _) (by omega) h0
  intro fuel
  induction fuel with
  | zero =>
    intro listed v w hs hc h0 hdc hB hA
    exfalso
    obtain ⟨i, hi⟩ := pos listed hs h0
    have h3 : listed.toList.countP (fun b => !b) = 0 := by omega
    rw [List.countP_eq_zero] at h3
    have h2 : l.length < listed.size := by omega
    have h4 := h3 listed[l.length] (by simp)
    simp [h2] at h0
    simp [h0] at h4
  | succ fuel ih =>
    intro listed v w hs hc h0 hdc hB hA
    refine ⟨fun hr => ?_, fun i hi => ?_⟩
    · exfalso
      obtain ⟨i, hi⟩ := pos listed hs h0
      rw [hr] at hi
      cases hi
    obtain ⟨h1, o, ho, hall⟩ := mem_ready.1 hi
    have h2 : i < listed.size := by
      rcases Nat.lt_or_ge i listed.size with h' | h'
      · exact h'
      · simp [Array.getElem?_eq_none h'] at h1
    have ho' : ops.toList[i]? = some o := by simpa using ho
    by_cases hil : i = l.length
    · -- the last one: all others have come up
      subst hil
      have hol : o = ol := by rw [hops] at ho'; simpa using ho'.symm
      subst hol
      have allL : ∀ n j, l.length - j ≤ n → j < l.length → listed.getD j false = true := by
        intro n
        induction n with
        | zero => intro j hj hj2; omega
        | succ n ihn =>
          intro j hj hj2
          have hcj := List.all_eq_true.1 hcv j (List.mem_range.2 (by omega))
          rw [List.any_eq_true] at hcj
          obtain ⟨o', ho2, hp⟩ := hcj
          obtain ⟨s, hs1, hs2⟩ := List.getElem_of_mem ho2
          have hp' := mem_predsOf.1 (by simpa using hp)
          obtain ⟨e, he1, he2, he3⟩ := hp'
          have hso : ops.toList[s]? = some o' := by rw [List.getElem?_eq_getElem hs1, hs2]
          have hlt := inTurn_get ops.toList 0 s o' ht hso e he1 he2
          have hs3 : s < ops.size := by simpa using hs1
          by_cases hsl : s = l.length
          · subst hsl
            have hoo : o' = o := by rw [hso] at ho'; exact Option.some.inj ho'
            subst hoo
            rw [← he3]
            exact hall e he1 he2
          · have := ihn s (by omega) (by omega)
            rw [← he3]
            exact hdc s o' (by simpa using hso) this e he1 he2
      refine wpOp_step ho (fun K' hK => ?_)
      refine hl v w _ (fun j hj => allL _ j (Nat.le_refl _) hj) hB (fun j hj => hA j (allL _ j (Nat.le_refl _) hj)) K' ?_
      intro a' w' hq
      apply hK
      have hr : Region.ready .any ops (listed.setIfInBounds l.length true) = [] := by
        cases h : Region.ready .any ops (listed.setIfInBounds l.length true) with
        | nil => rfl
        | cons j r =>
          exfalso
          have hm : j ∈ Region.ready .any ops (listed.setIfInBounds l.length true) := by rw [h]; exact List.mem_cons_self ..
          obtain ⟨g1, oj, g2, _⟩ := mem_ready.1 hm
          have g3 : j < ops.size := by
            rcases Nat.lt_or_ge j ops.size with h' | h'
            · exact h'
            · simp [Array.getElem?_eq_none h'] at g2
          by_cases hjl : j = l.length
          · subst hjl; simp [h2] at g1
          · have g4 := allL _ j (Nat.le_refl _) (by omega)
            have g5 : j < listed.size := by omega
            simp [Ne.symm hjl, g5] at g1 g4
            rw [g1] at g4; cases g4
      cases fuel with
      | zero => exact ⟨hr, hq⟩
      | succ f => exact ⟨fun _ => hq, by rw [hr]; intro j hj; cases hj⟩
    · have hi3 : i < l.length := by omega
      have hol : l[i]? = some o := by rw [hops, List.getElem?_append_left hi3] at ho'; exact ho'
      have hE := eachOpsF_get R B A l l 0 i o he hol
      rw [Nat.zero_add] at hE
      refine wpOp_step ho (fun K' hK => ?_)
      refine hE v w (fun k => listed.getD k false) (show listed.getD i false = false by (have h5 : listed[i] = false := by simpa [h2] using h1); simp [h2, h5]) hB (allOf_mem ?_) K' ?_
      · intro j hj
        obtain ⟨e, he1, he2, rfl⟩ := mem_predsOf.1 hj
        exact hA _ (hall e he1 he2)
      · intro u w' hR hB' hA'
        apply hK
        rw [putAll_put l 0 i o u v a hd hol, Nat.zero_add]
        have hget : ∀ k, k ≠ i → (listed.setIfInBounds i true).getD k false = listed.getD k false := by
          intro k hki
          simp [Ne.symm hki]
        have hB2 : B (fun k => (listed.setIfInBounds i true).getD k false) w' := by
          have e : (fun k => (listed.setIfInBounds i true).getD k false) = (fun k => if k = i then true else listed.getD k false) := by
            funext k
            by_cases hki : k = i
            · subst hki; simp [h2]
            · rw [if_neg hki, hget k hki]
          rw [e]; exact hB'
        refine ih _ _ w' (by simpa using hs) ?_ ?_ ?_ hB2 ?_
        · have h5 : listed[i] = false := by simpa [h2] using h1
          have : (listed.setIfInBounds i true).toList = listed.toList.set i true := by simp
          rw [this, List.countP_set (by simpa using h2)]
          have h6 : 0 < listed.toList.countP (fun b => !b) := List.countP_pos_iff.2 ⟨false, by rw [← h5]; simp, rfl⟩
          simp only [Array.getElem_toList, h5, Bool.not_false, Bool.not_true, if_true]
          simp only [Bool.false_eq_true, if_false]
          omega
        · rw [← h0]; simp [hil]
        · intro k ok hk hlk e he1 he2
          by_cases hek : e.on = i
          · rw [hek]; simp [h2]
          · rw [hget _ hek]
            by_cases hki : k = i
            · subst hki
              have : ok = o := by rw [hk] at ho; exact Option.some.inj ho
              subst this
              exact hall e he1 he2
            · rw [hget _ hki] at hlk
              exact hdc k ok hk hlk e he1 he2
        · intro k hk
          by_cases hki : k = i
          · subst hki; simpa using hA'
          · simp only [hki, if_false]
            rw [hget _ hki] at hk
            exact hst i k _ _ _ (Ne.symm hki) hR (hA k hk)
theorem EachF.one {a : Act} {l0 : List Oper} {i : Nat} {o : Oper} {r : List Oper} (h : ∀ (v : Nat → Value) (w : World) (f : Nat → Bool), f i = false → B f w → AllOf A v w (predsOf o) → ∀ K : Act → World → Prop, Shut (∀ u w', R i w w' → B (fun k => if k = i then true else f k) w' → A i u w' → K ((putAll v 0 l0 a).put o.dst u) w') →
    if Region.wanted o (yielded ops (putAll v 0 l0 a).tmps) = true then Oper.wp P o (putAll v 0 l0 a) w K Q else K ((putAll v 0 l0 a).put o.dst undef) w) (hr : EachOpsF P ops Q R B A a l0 (i + 1) r) : EachOpsF P ops Q R B A a l0 i (o :: r) :=
  ⟨fun v w f hf hB hp K hK => h v w f hf hB hp K hK, hr⟩
theorem flag_start (B : (Nat → Bool) → World → Prop) {n : Nat} {w : World} (hB : B (fun _ => false) w) : B (fun k => (Array.replicate n false).getD k false) w := by
  have e : (fun k => (Array.replicate n false).getD k false) = (fun _ => false) := by
    funext k
    by_cases h : k < n <;> simp [h]
  rw [e]; exact hB
/-- A region that draws its order and ends in one operation that waits for all others, whatever it writes. -/
theorem wp_region_flag {id : Nat} {a : Act} {w : World} (ol : Oper) (hol : ops.toList.getLast? = some ol) (l : List Oper) (hl0 : ops.toList.dropLast = l) (hm : P.follows .mixedOrders = true) (hd : dstsApart l = true) (ht : inTurn 0 ops.toList = true) (hcv : covered ops = true) (hst : ∀ i k v w w', i ≠ k → R i w w' → A k v w → A k v w') (hB : B (fun _ => false) w.drew)
    (he : EachOpsF P ops Q R B A a l 0 l) (hl : ∀ v w f, (∀ i, i < ops.size - 1 → f i = true) → B f w → (∀ i, i < ops.size - 1 → A i (v i) w) → ∀ K : Act → World → Prop, Shut (∀ a' w', Q .normal a' w' → K a' w') →
      if Region.wanted ol (yielded ops (putAll v 0 l a).tmps) = true then Oper.wp P ol (putAll v 0 l a) w K Q else K ((putAll v 0 l a).put ol.dst undef) w) : (Code.region id ops true).wp P Q a w := by
  have hops : ops.toList = l ++ [ol] := by
    obtain ⟨l', hl'⟩ := List.getLast?_eq_some_iff.1 hol
    rw [← hl0, hl']; simp
  have hsz : ops.size = l.length + 1 := by have := congrArg List.length hops; simpa using this
  have key := last_anyF R B A l ol hops hd ht hcv hst he (fun v w f hf hB' hA K hK => hl v w f (fun j hj => hf j (by omega)) hB' (fun j hj => hA j (by omega)) K hK) ops.size (Array.replicate ops.size false) (fun i => match l[i]? with | some o => (match o.dst with | some t => a.tmps.getD t undef | none => undef) | none => undef) w.drew (by simp) (by rw [Array.toList_replicate]; exact Nat.le_trans List.countP_le_length (by simp)) (by simp [hsz]) (by intro k o _ hk; by_cases h : k < ops.size <;> simp [h] at hk) (flag_start B hB) (by intro i hi; by_cases h : i < ops.size <;> simp [h] at hi)
  rw [putAll_self a l 0 _ (by intro i o ho; simp only [Nat.zero_add, ho]; cases o.dst <;> rfl)] at key
  exact wp_region_held (S := fun _ => True) hm (wp_region_each.held_of_any key)
end
end Go.Proofs.YtcnfnimgpiaamaaDoor
