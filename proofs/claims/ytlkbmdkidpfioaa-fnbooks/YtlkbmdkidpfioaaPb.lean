/-
Contracts of functions of this seat.
-/
import Derived.Test.YtlkbmdkidpfioaaRows
import Derived.WalkKit
import Derived.ProofKit
import Derived.OpenShut
import Derived.Deep.QuietTactic
import Derived.Below
import Derived.Laws.Externs
import Derived.OwnWalk
import Derived.BigQuiet
import Derived.ArgAppend
import Derived.RegionTactic
import Derived.ChangeAlike
import Derived.Lib.QuietBelow
import Derived.Laws.OwnMore
import Derived.Lib.MinMax
import Derived.Deep.RegionHeld3
import Derived.Deep.RegionWith
import Derived.Deep.DeepAppendRoom
import Derived.Deep.Cut
import Derived.Laws.MakeOwn
import Derived.Deep.RegionLawGrows
import Derived.Test.YtlkbmdkidpfioaaPa
namespace Go.Proofs.Ytlkbmdkidpfioaa
open Go.ChangeShapes Go.WideShapes Go.ChangeAt Go.RowKit
set_option linter.unusedVariables false
set_option maxRecDepth 100000
set_option maxRecDepth 100000
/-- The values v k laid into the operations' places. -/
def putAll (v : Nat → Value) : Nat → List Oper → Act → Act
  | _, [], a => a
  | k, o :: r, a => putAll v (k + 1) r (a.put o.dst (v k))
def dstsApart : List Oper → Bool
  | [] => true
  | o :: r => (match o.dst with | none => true | some d => r.all (fun o' => o'.dst != some d)) && dstsApart r
def inTurn : Nat → List Oper → Bool
  | _, [] => true
  | k, o :: r => o.after.all (fun e => !Region.binds .any e || decide (e.on < k)) && inTurn (k + 1) r
/-- Whom an operation waits for. -/
def predsOf (o : Oper) : List Nat := (o.after.toList.filter (Region.binds .any)).map (·.on)
def AllOf (A : Nat → Value → World → Prop) (v : Nat → Value) (w : World) : List Nat → Prop
  | [] => True
  | j :: r => A j (v j) w ∧ AllOf A v w r
theorem allOf_mem {A : Nat → Value → World → Prop} {v : Nat → Value} {w : World} : ∀ {l : List Nat}, (∀ j ∈ l, A j (v j) w) → AllOf A v w l
  | [], _ => trivial
  | _ :: _, h => ⟨h _ (List.mem_cons_self ..), allOf_mem (fun j hj => h j (List.mem_cons_of_mem _ hj))⟩
theorem put_same (a : Act) (d : Option Tmp) : a.put d (match d with | some t => a.tmps.getD t undef | none => undef) = a := by
  cases d with
  | none => rfl
  | some t =>
    simp only [Act.put]
    congr 1
    by_cases h : t < a.tmps.size
    · simp [Array.setIfInBounds, h]
    · simp [Array.setIfInBounds, h]
theorem put_put (a : Act) (d : Option Tmp) (u v : Value) : (a.put d u).put d v = a.put d v := by
  cases d with
  | none => rfl
  | some t => simp [Act.put]
theorem putAll_self (a : Act) : ∀ (l : List Oper) (k : Nat) (v : Nat → Value), (∀ (i : Nat) (o : Oper), l[i]? = some o → v (k + i) = (match o.dst with | some t => a.tmps.getD t undef | none => undef)) → putAll v k l a = a
  | [], _, _, _ => rfl
  | o :: r, k, v, h => by
    have h0 := h 0 o rfl
    rw [Nat.add_zero] at h0
    rw [putAll, h0, put_same]
    exact putAll_self a r (k + 1) v (fun i o' ho => by have := h (i + 1) o' (by simpa using ho); rwa [show k + (i + 1) = k + 1 + i by omega] at this)
theorem put_out (o : Oper) (u : Value) (v : Nat → Value) : ∀ (l : List Oper) (k : Nat) (a : Act), (match o.dst with | none => true | some d => l.all (fun o' => o'.dst != some d)) = true → (putAll v k l a).put o.dst u = putAll v k l (a.put o.dst u)
  | [], _, _, _ => rfl
  | o' :: r, k, a, h => by
    cases hd : o.dst with
    | none => rfl
    | some d =>
      rw [hd] at h
      simp only [List.all_cons, Bool.and_eq_true] at h
      rw [putAll, putAll, ← hd, put_out o u v r (k + 1) _ (by rw [hd]; exact h.2)]
      congr 1
      refine Act.put_comm a _ _ ?_
      intro d' h1 h2
      rw [hd] at h2; cases h2
      have := h.1
      rw [h1] at this
      simp at this
theorem putAll_put : ∀ (l : List Oper) (k i : Nat) (o : Oper) (u : Value) (v : Nat → Value) (a : Act), dstsApart l = true → l[i]? = some o →
    (putAll v k l a).put o.dst u = putAll (fun j => if j = k + i then u else v j) k l a
  | [], _, _, _, _, _, _, _, h => by simp at h
  | o' :: r, k, 0, o, u, v, a, hd, h => by
    simp only [List.getElem?_cons_zero, Option.some.injEq] at h
    subst h
    simp only [dstsApart, Bool.and_eq_true] at hd
    rw [putAll, put_out o' u v r (k + 1) _ hd.1, put_put, putAll]
    simp only [Nat.add_zero, if_true]
    exact putAll_congr r (k + 1) _ _ _ (fun i _ => by simp; omega)
  | o' :: r, k, i + 1, o, u, v, a, hd, h => by
    simp only [dstsApart, Bool.and_eq_true] at hd
    rw [putAll, putAll_put r (k + 1) i o u v _ hd.2 (by simpa using h), putAll]
    rw [if_neg (by omega)]
    exact putAll_congr r (k + 1) _ _ _ (fun i' _ => by rw [show k + 1 + i = k + (i + 1) by omega])
where
  putAll_congr : ∀ (l : List Oper) (k : Nat) (v v' : Nat → Value) (a : Act), (∀ i, i < l.length → v (k + i) = v' (k + i)) → putAll v k l a = putAll v' k l a
  | [], _, _, _, _, _ => rfl
  | o :: r, k, v, v', a, h => by
    have h0 := h 0 (by simp)
    rw [Nat.add_zero] at h0
    rw [putAll, putAll, h0]
    exact putAll_congr r (k + 1) v v' _ (fun i hi => by have := h (i + 1) (by simpa using hi); rwa [show k + (i + 1) = k + 1 + i by omega] at this)
theorem inTurn_get : ∀ (l : List Oper) (k i : Nat) (o : Oper), inTurn k l = true → l[i]? = some o → ∀ e ∈ o.after, Region.binds .any e = true → e.on < k + i
  | [], _, _, _, _, h => by simp at h
  | o' :: r, k, 0, o, hd, h => by
    simp only [List.getElem?_cons_zero, Option.some.injEq] at h
    subst h
    simp only [inTurn, Bool.and_eq_true, Array.all_eq_true'] at hd
    intro e he hb
    have := hd.1 e he
    simpa [hb] using this
  | o' :: r, k, i + 1, o, hd, h => by
    simp only [inTurn, Bool.and_eq_true] at hd
    intro e he hb
    have := inTurn_get r (k + 1) i o hd.2 (by simpa using h) e he hb
    omega
section
variable {P : Program} {ops : Array Oper} {Q : Exit → Act → World → Prop} (R : World → World → Prop) (B : World → Prop) (A : Nat → Value → World → Prop)
/-- What is asked of one operation: from what those have left that it waits for, it leaves its own. -/
def EachOp (P : Program) (ops : Array Oper) (Q : Exit → Act → World → Prop) (R : World → World → Prop) (B : World → Prop) (A : Nat → Value → World → Prop) (a : Act) (i : Nat) (o : Oper) : Prop :=
  ∀ (v : Nat → Value) (w : World), B w → AllOf A v w (predsOf o) → ∀ K : Act → World → Prop, (∀ u w', R w w' → B w' → A i u w' → K ((putAll v 0 ops.toList a).put o.dst u) w') →
    if Region.wanted o (yielded ops (putAll v 0 ops.toList a).tmps) = true then Oper.wp P o (putAll v 0 ops.toList a) w K Q else K ((putAll v 0 ops.toList a).put o.dst undef) w
def EachOps (P : Program) (ops : Array Oper) (Q : Exit → Act → World → Prop) (R : World → World → Prop) (B : World → Prop) (A : Nat → Value → World → Prop) (a : Act) : Nat → List Oper → Prop
  | _, [] => True
  | i, o :: r => EachOp P ops Q R B A a i o ∧ EachOps P ops Q R B A a (i + 1) r
theorem eachOps_get {a : Act} : ∀ (l : List Oper) (k i : Nat) (o : Oper), EachOps P ops Q R B A a k l → l[i]? = some o → EachOp P ops Q R B A a (k + i) o
  | [], _, _, _, _, h => by simp at h
  | o' :: r, k, 0, o, hd, h => by
    simp only [List.getElem?_cons_zero, Option.some.injEq] at h
    subst h
    exact hd.1
  | o' :: r, k, i + 1, o, hd, h => by
    have := eachOps_get r (k + 1) i o hd.2 (by simpa using h)
    rwa [show k + 1 + i = k + (i + 1) by omega] at this
theorem each_any {a : Act} (hd : dstsApart ops.toList = true) (ht : inTurn 0 ops.toList = true) (hst : ∀ k v w w', R w w' → A k v w → A k v w')
    (he : EachOps P ops Q R B A a 0 ops.toList) (hf : ∀ v w, B w → (∀ i, i < ops.size → A i (v i) w) → Q .normal (putAll v 0 ops.toList a) w) :
    ∀ (fuel : Nat) (listed : Array Bool) (v : Nat → Value) (w : World), listed.size = ops.size → listed.toList.countP (fun b => !b) ≤ fuel → B w → (∀ i, listed.getD i false = true → A i (v i) w) →
      wpAny P .any ops Q fuel listed (putAll v 0 ops.toList a) w := by
  have done : ∀ (listed : Array Bool) (v : Nat → Value) (w : World), listed.size = ops.size → B w → (∀ i, listed.getD i false = true → A i (v i) w) → Region.ready .any ops listed = [] → Q .normal (putAll v 0 ops.toList a) w := by
    intro listed v w hs hB hA hr
    have all : ∀ n i, i < n → i < ops.size → listed.getD i false = true := by
      intro n
      induction n with
      | zero => intro i hi; omega
      | succ n ih =>
        intro i hi hi2
        by_cases hl : listed.getD i false = true
        · exact hl
        · exfalso
          have hm : i ∈ Region.ready .any ops listed := by
            refine mem_ready.2 ⟨?_, ops[i], by simp [hi2], ?_⟩
            · have h1 : i < listed.size := by omega
              simp [h1] at hl ⊢
              exact hl
            · intro e he' hb
              have h2 := inTurn_get ops.toList 0 i ops[i] ht (by simp [hi2]) e he' hb
              exact ih e.on (by omega) (by omega)
          rw [hr] at hm
          cases hm
    exact hf v w hB (fun i hi => hA i (all (i + 1) i (Nat.lt_succ_self _) hi))
  intro fuel
  induction fuel with
  | zero =>
    intro listed v w hs hc hB hA
    have hr : Region.ready .any ops listed = [] := by
      cases h : Region.ready .any ops listed with
      | nil => rfl
      | cons i r =>
        exfalso
        have hm : i ∈ Region.ready .any ops listed := by rw [h]; exact List.mem_cons_self ..
        have h1 := (mem_ready.1 hm).1
        have h2 : i < listed.size := by
          rcases Nat.lt_or_ge i listed.size with h' | h'
          · exact h'
          · simp [Array.getElem?_eq_none h'] at h1
        have h3 : listed.toList.countP (fun b => !b) = 0 := by omega
        rw [List.countP_eq_zero] at h3
        have h4 := h3 listed[i] (by simp)
        simp [h2] at h1
        simp [h1] at h4
    exact ⟨hr, done listed v w hs hB hA hr⟩
  | succ fuel ih =>
    intro listed v w hs hc hB hA
    refine ⟨fun hr => done listed v w hs hB hA hr, fun i hi => ?_⟩
    obtain ⟨h1, o, ho, hall⟩ := mem_ready.1 hi
    have h2 : i < listed.size := by
      rcases Nat.lt_or_ge i listed.size with h' | h'
      · exact h'
      · simp [Array.getElem?_eq_none h'] at h1
    have ho' : ops.toList[i]? = some o := by simpa using ho
    have hE := eachOps_get R B A ops.toList 0 i o he ho'
    rw [Nat.zero_add] at hE
    refine wpOp_step ho (fun K' hK => ?_)
    refine hE v w hB (allOf_mem ?_) K' ?_
    · intro j hj
      simp only [predsOf, List.mem_map, List.mem_filter] at hj
      obtain ⟨e, ⟨he1, he2⟩, rfl⟩ := hj
      exact hA _ (hall e (by simpa using he1) he2)
    · intro u w' hR hB' hA'
      apply hK
      rw [putAll_put ops.toList 0 i o u v a hd ho', Nat.zero_add]
      refine ih _ _ w' (by simpa using hs) ?_ hB' ?_
      · have h5 : listed[i] = false := by simpa [h2] using h1
        have : (listed.setIfInBounds i true).toList = listed.toList.set i true := by simp
        rw [this, List.countP_set (by simpa using h2)]
        have h6 : 0 < listed.toList.countP (fun b => !b) := List.countP_pos_iff.2 ⟨false, by rw [← h5]; simp, rfl⟩
        simp only [Array.getElem_toList, h5, Bool.not_false, Bool.not_true, if_true]
        simp only [Bool.false_eq_true, if_false]
        omega
      · intro k hk
        by_cases hki : k = i
        · subst hki; simpa using hA'
        · simp only [hki, if_false]
          refine hst _ _ _ _ hR (hA k ?_)
          have : (listed.setIfInBounds i true).getD k false = listed.getD k false := by
            simp [Ne.symm hki]
          rwa [this] at hk
/-- A region that draws its order, one obligation an operation: R is what an operation may do to the world, B what holds throughout, A i what number i leaves (kept by R). -/
theorem wp_region_each {id : Nat} {a : Act} {w : World} (hm : P.follows .mixedOrders = true) (hd : dstsApart ops.toList = true) (ht : inTurn 0 ops.toList = true) (hst : ∀ k v w w', R w w' → A k v w → A k v w') (hB : B w.drew)
    (he : EachOps P ops Q R B A a 0 ops.toList) (hf : ∀ v w, B w → (∀ i, i < ops.size → A i (v i) w) → Q .normal (putAll v 0 ops.toList a) w) : (Code.region id ops true).wp P Q a w := by
  have key := each_any R B A hd ht hst he hf ops.size (Array.replicate ops.size false) (fun i => match ops.toList[i]? with | some o => (match o.dst with | some t => a.tmps.getD t undef | none => undef) | none => undef) w.drew (by simp) (by rw [Array.toList_replicate]; exact Nat.le_trans List.countP_le_length (by simp)) hB (by intro i hi; by_cases h : i < ops.size <;> simp [h] at hi)
  rw [putAll_self a ops.toList 0 _ (by intro i o ho; simp only [Nat.zero_add, ho])] at key
  exact wp_region_held (S := fun _ => True) hm (held_of_any key)
where
  held_of_any : ∀ {fuel : Nat} {listed : Array Bool} {a : Act} {w : World}, wpAny P .any ops Q fuel listed a w → wpAnyH P .any ops Q (fun _ => True) fuel listed a w
  | 0, _, _, _, h => h
  | fuel + 1, _, _, _, h => ⟨h.1, fun i hi => wpOp_mono (fun a' w' h' => ⟨trivial, held_of_any h'⟩) (h.2 i hi)⟩
/-- Every operation but the last one has one that waits for it. -/
def covered (ops : Array Oper) : Bool := (List.range (ops.size - 1)).all (fun j => ops.toList.any (fun o => (predsOf o).contains j))
theorem mem_predsOf {o : Oper} {j : Nat} : j ∈ predsOf o ↔ ∃ e ∈ o.after, Region.binds .any e = true ∧ e.on = j := by
  simp only [predsOf, List.mem_map, List.mem_filter]
  constructor
  · rintro ⟨e, ⟨h1, h2⟩, h3⟩; exact ⟨e, by simpa using h1, h2, h3⟩
  · rintro ⟨e, h1, h2, h3⟩; exact ⟨e, ⟨by simpa using h1, h2⟩, h3⟩
theorem last_any {a : Act} (l : List Oper) (ol : Oper) (hops : ops.toList = l ++ [ol]) (hd : dstsApart ops.toList = true) (ht : inTurn 0 ops.toList = true) (hcv : covered ops = true) (hst : ∀ k v w w', R w w' → A k v w → A k v w')
    (he : EachOps P ops Q R B A a 0 l) (hl : ∀ v w, B w → (∀ i, i < l.length → A i (v i) w) → ∀ K : Act → World → Prop, (∀ a' w', Q .normal a' w' → K a' w') →
      if Region.wanted ol (yielded ops (putAll v 0 ops.toList a).tmps) = true then Oper.wp P ol (putAll v 0 ops.toList a) w K Q else K ((putAll v 0 ops.toList a).put ol.dst undef) w) :
    ∀ (fuel : Nat) (listed : Array Bool) (v : Nat → Value) (w : World), listed.size = ops.size → listed.toList.countP (fun b => !b) ≤ fuel → listed.getD l.length true = false →
      (∀ (k : Nat) (o : Oper), ops[k]? = some o → listed.getD k false = true → ∀ e ∈ o.after, Region.binds .any e = true → listed.getD e.on false = true) → B w → (∀ i, listed.getD i false = true → A i (v i) w) →
      wpAny P .any ops Q fuel listed (putAll v 0 ops.toList a) w := by
  have hsz : ops.size = l.length + 1 := by have := congrArg List.length hops; simpa using this
  have pos : ∀ (listed : Array Bool), listed.size = ops.size → listed.getD l.length true = false → ∃ i, i ∈ Region.ready .any ops listed := by
    intro listed hs h0
    -- the least that has not come up
    have go : ∀ n i, i ≤ n → i < ops.size → listed.getD i true = false → ∃ i, i ∈ Region.ready .any ops listed := by
      intro n
      induction n with
      | zero =>
        intro i hi hi2 hu
        have : i = 0 := by omega
        subst this
        refine ⟨0, mem_ready.2 ⟨hu, ops[0], by simp [hi2], ?_⟩⟩
        intro e he' hb
        have := inTurn_get ops.toList 0 0 ops[0] ht (by simp [hi2]) e he' hb
        omega
      | succ n ih =>
        intro i hi hi2 hu
        by_cases hall : ∀ e ∈ ops[i].after, Region.binds .any e = true → listed.getD e.on false = true
        · exact ⟨i, mem_ready.2 ⟨hu, ops[i], by simp [hi2], hall⟩⟩
        · have : ∃ e, e ∈ ops[i].after ∧ Region.binds .any e = true ∧ ¬ listed.getD e.on false = true := by
            refine Classical.byContradiction (fun hno => hall (fun e h1 h2 => Classical.byContradiction (fun h3 => hno ⟨e, h1, h2, h3⟩)))
          obtain ⟨e, h1, h2, h3⟩ := this
          have h4 := inTurn_get ops.toList 0 i ops[i] ht (by simp [hi2]) e h1 h2
          refine ih e.on (by omega) (by omega) ?_
          have h5 : e.on < listed.size := by omega
          simp [h5] at h3 ⊢
          exact h3
    exact go l.length l.length (Nat.le_refl _) (by omega) h0
  intro fuel
  induction fuel with
  | zero =>
    intro listed v w hs hc h0 hdc hB hA
    exfalso
    obtain ⟨i, hi⟩ := pos listed hs h0
    have h3 : listed.toList.countP (fun b => !b) = 0 := by omega
    rw [List.countP_eq_zero] at h3
    have h2 : l.length < listed.size := by omega
    have h4 := h3 listed[l.length] (by simp)
    simp [h2] at h0
    simp [h0] at h4
  | succ fuel ih =>
    intro listed v w hs hc h0 hdc hB hA
    refine ⟨fun hr => ?_, fun i hi => ?_⟩
    · exfalso
      obtain ⟨i, hi⟩ := pos listed hs h0
      rw [hr] at hi
      cases hi
    obtain ⟨h1, o, ho, hall⟩ := mem_ready.1 hi
    have h2 : i < listed.size := by
      rcases Nat.lt_or_ge i listed.size with h' | h'
      · exact h'
      · simp [Array.getElem?_eq_none h'] at h1
    have ho' : ops.toList[i]? = some o := by simpa using ho
    by_cases hil : i = l.length
    · -- the last one: all others have come up
      subst hil
      have hol : o = ol := by rw [hops] at ho'; simpa using ho'.symm
      subst hol
      have allL : ∀ n j, l.length - j ≤ n → j < l.length → listed.getD j false = true := by
        intro n
        induction n with
        | zero => intro j hj hj2; omega
        | succ n ihn =>
          intro j hj hj2
          have hcj := List.all_eq_true.1 hcv j (List.mem_range.2 (by omega))
          rw [List.any_eq_true] at hcj
          obtain ⟨o', ho2, hp⟩ := hcj
          obtain ⟨s, hs1, hs2⟩ := List.getElem_of_mem ho2
          have hp' := mem_predsOf.1 (by simpa using hp)
          obtain ⟨e, he1, he2, he3⟩ := hp'
          have hso : ops.toList[s]? = some o' := by rw [List.getElem?_eq_getElem hs1, hs2]
          have hlt := inTurn_get ops.toList 0 s o' ht hso e he1 he2
          have hs3 : s < ops.size := by simpa using hs1
          by_cases hsl : s = l.length
          · subst hsl
            have hoo : o' = o := by rw [hso] at ho'; exact Option.some.inj ho'
            subst hoo
            rw [← he3]
            exact hall e he1 he2
          · have := ihn s (by omega) (by omega)
            rw [← he3]
            exact hdc s o' (by simpa using hso) this e he1 he2
      refine wpOp_step ho (fun K' hK => ?_)
      refine hl v w hB (fun j hj => hA j (allL _ j (Nat.le_refl _) hj)) K' ?_
      intro a' w' hq
      apply hK
      have hr : Region.ready .any ops (listed.setIfInBounds l.length true) = [] := by
        cases h : Region.ready .any ops (listed.setIfInBounds l.length true) with
        | nil => rfl
        | cons j r =>
          exfalso
          have hm : j ∈ Region.ready .any ops (listed.setIfInBounds l.length true) := by rw [h]; exact List.mem_cons_self ..
          obtain ⟨g1, oj, g2, _⟩ := mem_ready.1 hm
          have g3 : j < ops.size := by
            rcases Nat.lt_or_ge j ops.size with h' | h'
            · exact h'
            · simp [Array.getElem?_eq_none h'] at g2
          by_cases hjl : j = l.length
          · subst hjl; simp [h2] at g1
          · have g4 := allL _ j (Nat.le_refl _) (by omega)
            have g5 : j < listed.size := by omega
            simp [Ne.symm hjl, g5] at g1 g4
            rw [g1] at g4; cases g4
      cases fuel with
      | zero => exact ⟨hr, hq⟩
      | succ f => exact ⟨fun _ => hq, by rw [hr]; intro j hj; cases hj⟩
    · have hi3 : i < l.length := by omega
      have hol : l[i]? = some o := by rw [hops, List.getElem?_append_left hi3] at ho'; exact ho'
      have hE := eachOps_get R B A l 0 i o he hol
      rw [Nat.zero_add] at hE
      refine wpOp_step ho (fun K' hK => ?_)
      refine hE v w hB (allOf_mem ?_) K' ?_
      · intro j hj
        obtain ⟨e, he1, he2, rfl⟩ := mem_predsOf.1 hj
        exact hA _ (hall e he1 he2)
      · intro u w' hR hB' hA'
        apply hK
        rw [putAll_put ops.toList 0 i o u v a hd ho', Nat.zero_add]
        have hget : ∀ k, k ≠ i → (listed.setIfInBounds i true).getD k false = listed.getD k false := by
          intro k hki
          simp [Ne.symm hki]
        refine ih _ _ w' (by simpa using hs) ?_ ?_ ?_ hB' ?_
        · have h5 : listed[i] = false := by simpa [h2] using h1
          have : (listed.setIfInBounds i true).toList = listed.toList.set i true := by simp
          rw [this, List.countP_set (by simpa using h2)]
          have h6 : 0 < listed.toList.countP (fun b => !b) := List.countP_pos_iff.2 ⟨false, by rw [← h5]; simp, rfl⟩
          simp only [Array.getElem_toList, h5, Bool.not_false, Bool.not_true, if_true]
          simp only [Bool.false_eq_true, if_false]
          omega
        · rw [← h0]; simp [hil]
        · intro k ok hk hlk e he1 he2
          by_cases hek : e.on = i
          · rw [hek]; simp [h2]
          · rw [hget _ hek]
            by_cases hki : k = i
            · subst hki
              have : ok = o := by rw [hk] at ho; exact Option.some.inj ho
              subst this
              exact hall e he1 he2
            · rw [hget _ hki] at hlk
              exact hdc k ok hk hlk e he1 he2
        · intro k hk
          by_cases hki : k = i
          · subst hki; simpa using hA'
          · simp only [hki, if_false]
            rw [hget _ hki] at hk
            exact hst _ _ _ _ hR (hA k hk)
/-- A region that draws its order and ends in one operation that waits for all others. -/
theorem wp_region_last {id : Nat} {a : Act} {w : World} (l : List Oper) (ol : Oper) (hops : ops.toList = l ++ [ol]) (hm : P.follows .mixedOrders = true) (hd : dstsApart ops.toList = true) (ht : inTurn 0 ops.toList = true) (hcv : covered ops = true) (hst : ∀ k v w w', R w w' → A k v w → A k v w') (hB : B w.drew)
    (he : EachOps P ops Q R B A a 0 l) (hl : ∀ v w, B w → (∀ i, i < l.length → A i (v i) w) → ∀ K : Act → World → Prop, (∀ a' w', Q .normal a' w' → K a' w') →
      if Region.wanted ol (yielded ops (putAll v 0 ops.toList a).tmps) = true then Oper.wp P ol (putAll v 0 ops.toList a) w K Q else K ((putAll v 0 ops.toList a).put ol.dst undef) w) : (Code.region id ops true).wp P Q a w := by
  have hsz : ops.size = l.length + 1 := by have := congrArg List.length hops; simpa using this
  have key := last_any R B A l ol hops hd ht hcv hst he hl ops.size (Array.replicate ops.size false) (fun i => match ops.toList[i]? with | some o => (match o.dst with | some t => a.tmps.getD t undef | none => undef) | none => undef) w.drew (by simp) (by rw [Array.toList_replicate]; exact Nat.le_trans List.countP_le_length (by simp)) (by simp [hsz]) (by intro k o _ hk; by_cases h : k < ops.size <;> simp [h] at hk) hB (by intro i hi; by_cases h : i < ops.size <;> simp [h] at hi)
  rw [putAll_self a ops.toList 0 _ (by intro i o ho; simp only [Nat.zero_add, ho])] at key
  exact wp_region_held (S := fun _ => True) hm (wp_region_each.held_of_any key)
/-- What is asked of each operation but the last one. -/
def EachBut (P : Program) (ops : Array Oper) (Q : Exit → Act → World → Prop) (R : World → World → Prop) (B : World → Prop) (A : Nat → Value → World → Prop) (a : Act) : Nat → List Oper → Prop
  | _, [] => True
  | _, [_] => True
  | i, o :: o' :: r => EachOp P ops Q R B A a i o ∧ EachBut P ops Q R B A a (i + 1) (o' :: r)
theorem eachBut_ops {a : Act} : ∀ (l : List Oper) (ol : Oper) (k : Nat), EachBut P ops Q R B A a k (l ++ [ol]) → EachOps P ops Q R B A a k l
  | [], _, _, _ => trivial
  | [o], _, _, h => ⟨h.1, trivial⟩
  | _ :: o' :: r, ol, k, h => ⟨h.1, eachBut_ops (o' :: r) ol (k + 1) h.2⟩
theorem EachBut.one {a : Act} {i : Nat} {o o' : Oper} {r : List Oper} (h : ∀ (v : Nat → Value) (w : World), B w → AllOf A v w (predsOf o) → ∀ K : Act → World → Prop, Shut (∀ u w', R w w' → B w' → A i u w' → K ((putAll v 0 ops.toList a).put o.dst u) w') →
    if Region.wanted o (yielded ops (putAll v 0 ops.toList a).tmps) = true then Oper.wp P o (putAll v 0 ops.toList a) w K Q else K ((putAll v 0 ops.toList a).put o.dst undef) w) (hr : EachBut P ops Q R B A a (i + 1) (o' :: r)) : EachBut P ops Q R B A a i (o :: o' :: r) :=
  ⟨fun v w hB hp K hK => h v w hB hp K hK, hr⟩
/-- A region that draws its order and ends in one operation that waits for all others. -/
theorem wp_region_last2 {id : Nat} {a : Act} {w : World} (ol : Oper) (hol : ops.toList.getLast? = some ol) (hm : P.follows .mixedOrders = true) (hd : dstsApart ops.toList = true) (ht : inTurn 0 ops.toList = true) (hcv : covered ops = true) (hst : ∀ k v w w', R w w' → A k v w → A k v w') (hB : B w.drew)
    (he : EachBut P ops Q R B A a 0 ops.toList) (hl : ∀ v w, B w → (∀ i, i < ops.size - 1 → A i (v i) w) → ∀ K : Act → World → Prop, Shut (∀ a' w', Q .normal a' w' → K a' w') →
      if Region.wanted ol (yielded ops (putAll v 0 ops.toList a).tmps) = true then Oper.wp P ol (putAll v 0 ops.toList a) w K Q else K ((putAll v 0 ops.toList a).put ol.dst undef) w) : (Code.region id ops true).wp P Q a w := by
  have hops : ops.toList = ops.toList.dropLast ++ [ol] := by
    have h0 := List.getLast?_eq_some_iff.1 hol
    obtain ⟨l, hl⟩ := h0
    rw [hl]; simp
  have hlen : ops.toList.dropLast.length = ops.size - 1 := by simp
  refine wp_region_last R B A ops.toList.dropLast ol hops hm hd ht hcv hst hB (eachBut_ops R B A _ ol 0 (hops ▸ he)) ?_
  intro v w hB' hA K hK
  exact hl v w hB' (fun j hj => hA j (by rw [hlen]; exact hj)) K hK
/-- The same where the last operation may write what another one reads: the values of all but it are laid. -/
def EachOpL (P : Program) (ops : Array Oper) (Q : Exit → Act → World → Prop) (R : World → World → Prop) (B : World → Prop) (A : Nat → Value → World → Prop) (a : Act) (l : List Oper) (i : Nat) (o : Oper) : Prop :=
  ∀ (v : Nat → Value) (w : World), B w → AllOf A v w (predsOf o) → ∀ K : Act → World → Prop, (∀ u w', R w w' → B w' → A i u w' → K ((putAll v 0 l a).put o.dst u) w') →
    if Region.wanted o (yielded ops (putAll v 0 l a).tmps) = true then Oper.wp P o (putAll v 0 l a) w K Q else K ((putAll v 0 l a).put o.dst undef) w
def EachOpsL (P : Program) (ops : Array Oper) (Q : Exit → Act → World → Prop) (R : World → World → Prop) (B : World → Prop) (A : Nat → Value → World → Prop) (a : Act) (l : List Oper) : Nat → List Oper → Prop
  | _, [] => True
  | i, o :: r => EachOpL P ops Q R B A a l i o ∧ EachOpsL P ops Q R B A a l (i + 1) r
theorem EachL.one {a : Act} {l0 : List Oper} {i : Nat} {o : Oper} {r : List Oper} (h : ∀ (v : Nat → Value) (w : World), B w → AllOf A v w (predsOf o) → ∀ K : Act → World → Prop, Shut (∀ u w', R w w' → B w' → A i u w' → K ((putAll v 0 l0 a).put o.dst u) w') →
    if Region.wanted o (yielded ops (putAll v 0 l0 a).tmps) = true then Oper.wp P o (putAll v 0 l0 a) w K Q else K ((putAll v 0 l0 a).put o.dst undef) w) (hr : EachOpsL P ops Q R B A a l0 (i + 1) r) : EachOpsL P ops Q R B A a l0 i (o :: r) :=
  ⟨fun v w hB hp K hK => h v w hB hp K hK, hr⟩
end

theorem grown_reflp (w : World) (r : Option Nat) : w.grownBy w r := ⟨rfl, rfl, rfl, Nat.le_refl _, fun _ _ _ => rfl⟩
theorem below_gr {B Y : Nat} {w W W' : World} (h : Below B w W) (hg : W.grownBy W' (some Y)) (hB : B ≤ W.heap.size) (hY : B ≤ Y) : Below B w W' :=
  h.trans ⟨hg.os, hg.tape, hg.output, hg.size, fun k hk => hg.block k (by omega) (fun e => by cases e; omega)⟩
theorem hv_gr {W W' : World} {p g T : Nat} {vs : Array Value} (h : HoldV W p vs T) (hg : W.grownBy W' (some g)) (hne : p ≠ g) : HoldV W' p vs T := (hg.block p h.lt (fun e => hne (Option.some.inj e))).trans h
/-- A row of pieces that is being filled, k of n so far. -/
def FilP (W : World) (BB Y n : Nat) (os : List PieceM) (k : Nat) : Prop := W.ownsRow BB 48 6 (.slice (some ⟨Y, 0, none⟩) k n) k ((os.take k).flatMap valPiece)
theorem FilP.gr {W W' : World} {BB Y n k : Nat} {os : List PieceM} (h : FilP W BB Y n os k) (hb : W'.heap[Y]? = W.heap[Y]?) : FilP W' BB Y n os k := by
  refine ⟨h.1, ?_⟩
  rcases h.2 with h0 | ⟨g, cap, cur, hv, hB, hg, hrest⟩
  · exact .inl h0
  · cases hv
    exact .inr ⟨Y, n, cur, rfl, hB, hb.trans hg, hrest⟩
theorem FilP.lt {W : World} {BB Y n k : Nat} {os : List PieceM} (h : FilP W BB Y n os k) : Y < W.heap.size ∧ BB ≤ Y := by
  rcases h.2 with ⟨h0, _⟩ | ⟨g, cap, cur, hv, hB, hg, hrest⟩
  · cases h0
  · cases hv
    exact ⟨(Array.getElem?_eq_some_iff.1 hg).1, hB⟩
theorem FilP.back {W : World} {BB Y n k : Nat} {os : List PieceM} (h : FilP W BB Y n os (k + 1)) (hk : k + 1 ≤ os.length) : FilP W BB Y n os k := by
  have hl : ((os.take k).flatMap valPiece).length = k * 6 := by rw [vlen valPiece 6 valPiece_len, List.length_take]; omega
  refine ⟨hl, ?_⟩
  rcases h.2 with ⟨h0, _⟩ | ⟨g, cap, cur, hv, hB, hg, hn, hm, hs, ht⟩
  · cases h0
  · cases hv
    refine .inr ⟨Y, n, cur, rfl, hB, hg, by omega, hm, hs, ?_⟩
    have e : (os.take (k + 1)).flatMap valPiece = (os.take k).flatMap valPiece ++ valPiece os[k] := by rw [List.take_succ_eq_append_getElem (by omega), List.flatMap_append]; simp
    rw [e] at ht
    have e2 : cur.toList.take (k * 6) = (cur.toList.take ((k + 1) * 6)).take (k * 6) := by rw [List.take_take]; congr 1; omega
    rw [e2, ht, List.take_append_of_le_length (by omega), ← hl, List.take_length]
theorem gr_set {W W' : World} {g : Nat} (h : W.grownBy W' (some g)) (i : Nat) (y : Value) : W.grownBy (W'.setCell ⟨g, i, none⟩ y) (some g) :=
  ⟨h.os, h.tape, h.output, by rw [World.size_setCell]; exact h.size, fun k hk hne => (heap_setCell_other _ ⟨g, i, none⟩ k y (fun e => hne (by rw [show k = g from e]))).trans (h.block k hk hne)⟩
theorem tk_one {α : Type} (a b : List α) (q : α) : (a ++ q :: b).take (a.length + 1) = (a ++ q :: b).take a.length ++ [q] := by
  rw [List.take_length_add_append, List.take_left]; rfl
/-- Where a pointer to a linked piece stands: how many are left from it on. -/
def posOf (bs : List Nat) (t : Value) : Nat := match t with
  | .pointer (some p) => bs.length - bs.idxOf p.block
  | _ => 0
theorem pos_at {xs ys : List (Nat × PieceM)} {L : Nat} (h : (L :: bks (xs ++ ys)).Nodup) : posOf (bks (xs ++ ys)) (ptO (fstO ys none)) = ys.length := by
  cases ys with
  | nil => rfl
  | cons p r =>
    obtain ⟨b, o⟩ := p
    obtain ⟨h1, _⟩ := nd_mid h
    show (bks (xs ++ (b, o) :: r)).length - (bks (xs ++ (b, o) :: r)).idxOf b = _
    have e : bks (xs ++ (b, o) :: r) = bks xs ++ b :: bks r := by simp [bks]
    rw [e, List.idxOf_append, if_neg h1, List.idxOf_cons_self]
    simp [bks]
/-- What stays while a board is made of a list. -/
structure BdS (w W : World) (X Y n : Nat) (u x : Int) (os : List PieceM) (k : Nat) : Prop where
  bel : Below w.heap.size w W
  box : HoldV W X #[.int .i64 u, .int .i64 x, .slice (some ⟨Y, 0, none⟩) k n] 29
  res : HoldV W w.heap.size #[.int .i64 0, .int .i64 0, .slice none 0 0] 29
  fil : FilP W (w.heap.size + 1) Y n os k
  ne : X ≠ Y ∧ w.heap.size < X
theorem BdS.next {w W W' : World} {X Y n : Nat} {u x : Int} {os : List PieceM} {k : Nat} (h : BdS w W X Y n u x os k) (hb : Below W.heap.size W W') : BdS w W' X Y n u x os k :=
  ⟨h.bel.trans (hb.mono h.bel.size), h.box.next hb, h.res.next hb, h.fil.gr (hb.block Y h.fil.lt.1), h.ne⟩
/-- What each operation leaves where a piece is appended to a board. -/
def A5b (w : World) (X Y c n : Nat) (os : List PieceM) (q : PieceM) (k : Nat) : Nat → Value → World → Prop
  | 0, v, _ => v = .pointer (some ⟨X, 2, none⟩)
  | 1, v, _ => v = .slice (some ⟨Y, 0, none⟩) k n
  | 2, v, _ => v = .pointer (some ⟨c, 0, none⟩)
  | 3, v, _ => v = .pointer (some ⟨c, 0, none⟩)
  | 4, v, _ => v = .pointer (some ⟨c, 0, none⟩)
  | 5, v, _ => v = pcV q
  | 8, v, _ => v = .pointer (some ⟨X, 2, none⟩)
  | 6, v, W => ∃ b : Nat, v = .slice (some ⟨b, 0, none⟩) 1 1 ∧ HoldV W b #[.int .i64 q.f0, .int .i64 q.f1, .int .i64 q.f2, .int .i64 q.f3, .bool q.f4, .bool q.f5] 48 ∧ b ≠ Y
  | 7, v, W => v = .slice (some ⟨Y, 0, none⟩) (k + 1) n ∧ FilP W (w.heap.size + 1) Y n os (k + 1)
  | _, _, _ => True
theorem A5b_kept {w : World} {X Y c n : Nat} {os : List PieceM} {q : PieceM} {k : Nat} : ∀ (i : Nat) (v : Value) (W W' : World), (W.grownBy W' (some Y) ∧ (FilP W (w.heap.size + 1) Y n os (k + 1) → FilP W' (w.heap.size + 1) Y n os (k + 1))) → A5b w X Y c n os q k i v W → A5b w X Y c n os q k i v W' := by
  intro i v W W' hg h
  unfold A5b at h ⊢
  split at h
  all_goals first
    | exact h
    | (obtain ⟨b, e, hh, hb⟩ := h; exact ⟨b, e, hv_gr hh hg.1 hb, hb⟩)
    | exact ⟨h.1, hg.2 h.2⟩
def A1b (w : World) (L n : Nat) (u x : Int) (os : List PieceM) : Nat → Value → World → Prop
  | 0, v, _ => v = .pointer (some ⟨L, 0, none⟩)
  | 1, v, _ => v = .pointer (some ⟨L, 0, none⟩)
  | 2, v, _ => v = .pointer (some ⟨L, 0, none⟩)
  | 3, v, _ => v = .int .i64 u
  | 4, v, _ => v = .pointer (some ⟨L, 0, none⟩)
  | 5, v, _ => v = .pointer (some ⟨L, 0, none⟩)
  | 6, v, _ => v = .pointer (some ⟨L, 1, none⟩)
  | 7, v, _ => v = .int .i64 x
  | 8, v, _ => v = .pointer (some ⟨L, 0, none⟩)
  | 9, v, _ => v = .pointer (some ⟨L, 0, none⟩)
  | 10, v, _ => v = .pointer (some ⟨L, 2, none⟩)
  | 11, v, _ => v = .int .i64 (n : Int)
  | 12, v, W => ∃ Y : Nat, v = .slice (some ⟨Y, 0, none⟩) 0 n ∧ FilP W (w.heap.size + 1) Y n os 0
  | 13, v, W => ∃ Y : Nat, v = .agg #[.int .i64 u, .int .i64 x, .slice (some ⟨Y, 0, none⟩) 0 n] ∧ FilP W (w.heap.size + 1) Y n os 0
  | 14, v, W => ∃ X : Nat, v = .pointer (some ⟨X, 0, none⟩) ∧ HoldV W X #[.int .i64 0, .int .i64 0, .slice none 0 0] 29 ∧ w.heap.size < X
  | _, _, _ => True
theorem A1b_kept {w : World} {L n : Nat} {u x : Int} {os : List PieceM} : ∀ (i : Nat) (v : Value) (W W' : World), Below W.heap.size W W' → A1b w L n u x os i v W → A1b w L n u x os i v W' := by
  intro i v W W' hg h
  unfold A1b at h ⊢
  split at h
  all_goals first
    | exact h
    | (obtain ⟨Y, e, hf⟩ := h; exact ⟨Y, e, hf.gr (hg.block Y hf.lt.1)⟩)
    | (obtain ⟨X, e, hh, hb⟩ := h; exact ⟨X, e, hh.next hg, hb⟩)
theorem fil_ne {W : World} {BB X Y n k : Nat} {os : List PieceM} {vs : Array Value} (h : FilP W BB Y n os k) (hb : HoldV W X vs 29) : X ≠ Y := by
  intro e
  subst e
  rcases h.2 with ⟨h0, _⟩ | ⟨g, cap, cur, hv, hB, hg, hrest⟩
  · cases h0
  · cases hv
    unfold HoldV at hb
    rw [hg] at hb
    injection hb with hb
    injection hb with _ h2
    exact absurd h2 (by decide)
set_option maxHeartbeats 16000000 in
theorem board_walk (B L : Nat) (u x : Int) (ns : List (Nat × PieceM)) (w : World) (h : DL w B L u x ns) (hm : ns.length ≤ 1048576) :
    Calls Try.prog 28 #[.pointer (some ⟨L, 0, none⟩)] w fun e w' => ∃ v : Value, e = .returned (.agg #[.int .i64 u, .int .i64 x, v]) ∧ OwnP w' w.heap.size v (ns.map Prod.snd) ∧ Below w.heap.size w w' := by
  have HD := hide h
  have HZ0 : Hid (BoxV w (w.alloc (.cells #[.int .i64 0, .int .i64 0, .slice none 0 0] 29)) #[.int .i64 0, .int .i64 0, .slice none 0 0] 29) := hide (BoxV.start _ _ _)
  obtain ⟨i, hi, hz0, hz1, hz2⟩ := info_parts Try.infoPiece
  have HI := hide hi; have HI0 := hide hz0; have HI1 := hide hz1; have HI2 := hide hz2
  obtain ⟨os, hos⟩ : ∃ os, os = ns.map Prod.snd := ⟨_, rfl⟩
  obtain ⟨n, hnn⟩ : ∃ n, n = ns.length := ⟨_, rfl⟩
  have HOS := hide hos; have HNN := hide hnn
  have hm2 : n ≤ 1048576 := by omega
  have HOL : Hid (os.length = n) := hide (by rw [hos, hnn, List.length_map])
  clear h hi hz0 hz1 hz2 hos hnn hm
  go_enter Try.func28, Try.ntmps28
  go_upto_region 1 with fail
  refine wp_region_last2 (fun W W' => Below W.heap.size W W') (fun W => Below w.heap.size w W ∧ HoldV W w.heap.size #[.int .i64 0, .int .i64 0, .slice none 0 0] 29) (A1b w L n u x os) _ rfl (by kernel_rfl) (by kernel_rfl) (by kernel_rfl) (by kernel_rfl) A1b_kept ⟨HZ0.out.1.drew, HZ0.out.2.2⟩ ?_ ?_
  · clear HZ0
    refine EachBut.one _ _ _ ?_ ?_
    · intro v W hB hp KK hKK
      rw [if_pos (by rfl)]
      have hp1 : AllOf (A1b w L n u x os) v W [] := hp
      clear hp
      simp only [putAll, Act.put, List.setIfInBounds_toArray, List.set_cons_zero, List.set_cons_succ, Nat.reduceAdd] at hKK ⊢
      clear hp1
      go_simp
      refine hKK _ _ (Below.refl _ _) hB ?_
      rfl
    refine EachBut.one _ _ _ ?_ ?_
    · intro v W hB hp KK hKK
      rw [if_pos (by rfl)]
      have hp1 : AllOf (A1b w L n u x os) v W [0] := hp
      clear hp
      simp only [putAll, Act.put, List.setIfInBounds_toArray, List.set_cons_zero, List.set_cons_succ, Nat.reduceAdd] at hKK ⊢
      have e0 : v 0 = .pointer (some ⟨L, 0, none⟩) := hp1.1
      simp only [e0] at hKK ⊢
      clear e0
      clear hp1
      go_simp
      refine hKK _ _ (Below.refl _ _) hB ?_
      rfl
    refine EachBut.one _ _ _ ?_ ?_
    · intro v W hB hp KK hKK
      rw [if_pos (by rfl)]
      have hp1 : AllOf (A1b w L n u x os) v W [1] := hp
      clear hp
      simp only [putAll, Act.put, List.setIfInBounds_toArray, List.set_cons_zero, List.set_cons_succ, Nat.reduceAdd] at hKK ⊢
      have e1 : v 1 = .pointer (some ⟨L, 0, none⟩) := hp1.1
      simp only [e1] at hKK ⊢
      clear e1
      clear hp1
      go_simp
      refine hKK _ _ (Below.refl _ _) hB ?_
      rfl
    refine EachBut.one _ _ _ ?_ ?_
    · intro v W hB hp KK hKK
      rw [if_pos (by rfl)]
      have hp1 : AllOf (A1b w L n u x os) v W [2] := hp
      clear hp
      simp only [putAll, Act.put, List.setIfInBounds_toArray, List.set_cons_zero, List.set_cons_succ, Nat.reduceAdd] at hKK ⊢
      have e2 : v 2 = .pointer (some ⟨L, 0, none⟩) := hp1.1
      have hc := (HD.out.next hB.1).head.cell 0 _ rfl
      simp only [e2] at hKK ⊢
      clear e2
      clear hp1
      go_simp
      refine hKK _ _ (Below.refl _ _) hB ?_
      rfl
    refine EachBut.one _ _ _ ?_ ?_
    · intro v W hB hp KK hKK
      rw [if_pos (by rfl)]
      have hp1 : AllOf (A1b w L n u x os) v W [] := hp
      clear hp
      simp only [putAll, Act.put, List.setIfInBounds_toArray, List.set_cons_zero, List.set_cons_succ, Nat.reduceAdd] at hKK ⊢
      clear hp1
      go_simp
      refine hKK _ _ (Below.refl _ _) hB ?_
      rfl
    refine EachBut.one _ _ _ ?_ ?_
    · intro v W hB hp KK hKK
      rw [if_pos (by rfl)]
      have hp1 : AllOf (A1b w L n u x os) v W [4] := hp
      clear hp
      simp only [putAll, Act.put, List.setIfInBounds_toArray, List.set_cons_zero, List.set_cons_succ, Nat.reduceAdd] at hKK ⊢
      have e4 : v 4 = .pointer (some ⟨L, 0, none⟩) := hp1.1
      simp only [e4] at hKK ⊢
      clear e4
      clear hp1
      go_simp
      refine hKK _ _ (Below.refl _ _) hB ?_
      rfl
    refine EachBut.one _ _ _ ?_ ?_
    · intro v W hB hp KK hKK
      rw [if_pos (by rfl)]
      have hp1 : AllOf (A1b w L n u x os) v W [5] := hp
      clear hp
      simp only [putAll, Act.put, List.setIfInBounds_toArray, List.set_cons_zero, List.set_cons_succ, Nat.reduceAdd] at hKK ⊢
      have e5 : v 5 = .pointer (some ⟨L, 0, none⟩) := hp1.1
      simp only [e5] at hKK ⊢
      clear e5
      clear hp1
      go_simp
      refine hKK _ _ (Below.refl _ _) hB ?_
      rfl
    refine EachBut.one _ _ _ ?_ ?_
    · intro v W hB hp KK hKK
      rw [if_pos (by rfl)]
      have hp1 : AllOf (A1b w L n u x os) v W [6] := hp
      clear hp
      simp only [putAll, Act.put, List.setIfInBounds_toArray, List.set_cons_zero, List.set_cons_succ, Nat.reduceAdd] at hKK ⊢
      have e6 : v 6 = .pointer (some ⟨L, 1, none⟩) := hp1.1
      have hc := (HD.out.next hB.1).head.cell 1 _ rfl
      simp only [e6] at hKK ⊢
      clear e6
      clear hp1
      go_simp
      refine hKK _ _ (Below.refl _ _) hB ?_
      rfl
    refine EachBut.one _ _ _ ?_ ?_
    · intro v W hB hp KK hKK
      rw [if_pos (by rfl)]
      have hp1 : AllOf (A1b w L n u x os) v W [] := hp
      clear hp
      simp only [putAll, Act.put, List.setIfInBounds_toArray, List.set_cons_zero, List.set_cons_succ, Nat.reduceAdd] at hKK ⊢
      clear hp1
      go_simp
      refine hKK _ _ (Below.refl _ _) hB ?_
      rfl
    refine EachBut.one _ _ _ ?_ ?_
    · intro v W hB hp KK hKK
      rw [if_pos (by rfl)]
      have hp1 : AllOf (A1b w L n u x os) v W [8] := hp
      clear hp
      simp only [putAll, Act.put, List.setIfInBounds_toArray, List.set_cons_zero, List.set_cons_succ, Nat.reduceAdd] at hKK ⊢
      have e8 : v 8 = .pointer (some ⟨L, 0, none⟩) := hp1.1
      simp only [e8] at hKK ⊢
      clear e8
      clear hp1
      go_simp
      refine hKK _ _ (Below.refl _ _) hB ?_
      rfl
    refine EachBut.one _ _ _ ?_ ?_
    · intro v W hB hp KK hKK
      rw [if_pos (by rfl)]
      have hp1 : AllOf (A1b w L n u x os) v W [9] := hp
      clear hp
      simp only [putAll, Act.put, List.setIfInBounds_toArray, List.set_cons_zero, List.set_cons_succ, Nat.reduceAdd] at hKK ⊢
      have e9 : v 9 = .pointer (some ⟨L, 0, none⟩) := hp1.1
      simp only [e9] at hKK ⊢
      clear e9
      clear hp1
      go_simp
      refine hKK _ _ (Below.refl _ _) hB ?_
      rfl
    refine EachBut.one _ _ _ ?_ ?_
    · intro v W hB hp KK hKK
      rw [if_pos (by rfl)]
      have hp1 : AllOf (A1b w L n u x os) v W [10] := hp
      clear hp
      simp only [putAll, Act.put, List.setIfInBounds_toArray, List.set_cons_zero, List.set_cons_succ, Nat.reduceAdd] at hKK ⊢
      have e10 : v 10 = .pointer (some ⟨L, 2, none⟩) := hp1.1
      have hc : W.cell? ⟨L, 2, none⟩ = some (.int .i64 (n : Int)) := by rw [HNN.out]; exact (HD.out.next hB.1).head.cell 2 _ rfl
      simp only [e10] at hKK ⊢
      clear e10
      clear hp1
      go_simp
      refine hKK _ _ (Below.refl _ _) hB ?_
      rfl
    refine EachBut.one _ _ _ ?_ ?_
    · intro v W hB hp KK hKK
      rw [if_pos (by rfl)]
      have hp1 : AllOf (A1b w L n u x os) v W [11] := hp
      clear hp
      simp only [putAll, Act.put, List.setIfInBounds_toArray, List.set_cons_zero, List.set_cons_succ, Nat.reduceAdd] at hKK ⊢
      have e11 : v 11 = .int .i64 (n : Int) := hp1.1
      simp only [e11] at hKK ⊢
      clear e11
      clear hp1
      obtain ⟨wm, hrun, hown, hgr⟩ := run_make_own (P := Try.prog) W (w.heap.size + 1) 27 48 i _ 6 Try.underlying27 HI.out HI0.out HI1.out .i64 .i64 n (by rw [HI2.out]; omega) (by unfold maxLen; omega) hB.2.lt
      have hbl : Below W.heap.size W wm := (Below.refl _ _).grown hgr (Nat.le_refl _) (fun k hk => by cases hk)
      have HB := hide hB
      clear hB hgr
      have HF : Hid (FilP wm (w.heap.size + 1) W.heap.size n os 0) := hide hown
      clear hown
      go_simp
      refine hKK _ _ hbl ⟨HB.out.1.trans (hbl.mono HB.out.1.size), HB.out.2.next hbl⟩ ?_
      exact ⟨_, rfl, HF.out⟩
    refine EachBut.one _ _ _ ?_ ?_
    · intro v W hB hp KK hKK
      rw [if_pos (by rfl)]
      have hp1 : AllOf (A1b w L n u x os) v W [3, 7, 12] := hp
      clear hp
      simp only [putAll, Act.put, List.setIfInBounds_toArray, List.set_cons_zero, List.set_cons_succ, Nat.reduceAdd] at hKK ⊢
      have e3 : v 3 = .int .i64 u := hp1.1
      have e7 : v 7 = .int .i64 x := hp1.2.1
      obtain ⟨Y, e12, hf⟩ := hp1.2.2.1
      simp only [e3, e7] at hKK ⊢
      clear e3 e7
      simp only [e12] at hKK ⊢
      clear e12 hp1
      have HF := hide hf
      clear hf
      go_simp
      refine hKK _ _ (Below.refl _ _) hB ?_
      exact ⟨Y, rfl, HF.out⟩
    refine EachBut.one _ _ _ ?_ ?_
    · intro v W hB hp KK hKK
      rw [if_pos (by rfl)]
      have hp1 : AllOf (A1b w L n u x os) v W [] := hp
      clear hp
      simp only [putAll, Act.put, List.setIfInBounds_toArray, List.set_cons_zero, List.set_cons_succ, Nat.reduceAdd] at hKK ⊢
      clear hp1
      have HB := hide hB
      clear hB
      go_simp
      refine hKK _ _ ((Below.refl _ _).alloc (Nat.le_refl _) _) ⟨HB.out.1.alloc HB.out.1.size _, HB.out.2.next ((Below.refl _ _).alloc (Nat.le_refl _) _)⟩ ?_
      exact ⟨W.heap.size, rfl, hv_new _ _ _, HB.out.2.lt⟩
    · exact trivial
  intro v W hB hA KK hKK
  rw [if_pos (by rfl)]
  simp only [putAll, Act.put, List.setIfInBounds_toArray, List.set_cons_zero, List.set_cons_succ, Nat.reduceAdd]
  have p0 : A1b w L n u x os 0 (v 0) W := hA 0 (by decide)
  have p1 : A1b w L n u x os 1 (v 1) W := hA 1 (by decide)
  have p2 : A1b w L n u x os 2 (v 2) W := hA 2 (by decide)
  have p3 : A1b w L n u x os 3 (v 3) W := hA 3 (by decide)
  have p4 : A1b w L n u x os 4 (v 4) W := hA 4 (by decide)
  have p5 : A1b w L n u x os 5 (v 5) W := hA 5 (by decide)
  have p6 : A1b w L n u x os 6 (v 6) W := hA 6 (by decide)
  have p7 : A1b w L n u x os 7 (v 7) W := hA 7 (by decide)
  have p8 : A1b w L n u x os 8 (v 8) W := hA 8 (by decide)
  have p9 : A1b w L n u x os 9 (v 9) W := hA 9 (by decide)
  have p10 : A1b w L n u x os 10 (v 10) W := hA 10 (by decide)
  have p11 : A1b w L n u x os 11 (v 11) W := hA 11 (by decide)
  have p12 : A1b w L n u x os 12 (v 12) W := hA 12 (by decide)
  have p13 : A1b w L n u x os 13 (v 13) W := hA 13 (by decide)
  have p14 : A1b w L n u x os 14 (v 14) W := hA 14 (by decide)
  clear hA
  have e0 : v 0 = .pointer (some ⟨L, 0, none⟩) := p0
  have e1 : v 1 = .pointer (some ⟨L, 0, none⟩) := p1
  have e2 : v 2 = .pointer (some ⟨L, 0, none⟩) := p2
  have e3 : v 3 = .int .i64 u := p3
  have e4 : v 4 = .pointer (some ⟨L, 0, none⟩) := p4
  have e5 : v 5 = .pointer (some ⟨L, 0, none⟩) := p5
  have e6 : v 6 = .pointer (some ⟨L, 1, none⟩) := p6
  have e7 : v 7 = .int .i64 x := p7
  have e8 : v 8 = .pointer (some ⟨L, 0, none⟩) := p8
  have e9 : v 9 = .pointer (some ⟨L, 0, none⟩) := p9
  have e10 : v 10 = .pointer (some ⟨L, 2, none⟩) := p10
  have e11 : v 11 = .int .i64 (n : Int) := p11
  obtain ⟨Y, e13, hf⟩ := p13
  obtain ⟨X, e14, hX, hXl⟩ := p14
  obtain ⟨Y2, e12, _⟩ := p12
  simp only [e0, e1, e2, e3, e4, e5, e6, e7, e8, e9, e10, e11, e12, e13, e14]
  clear e0 e1 e2 e3 e4 e5 e6 e7 e8 e9 e10 e11 e12 e13 e14 p0 p1 p2 p3 p4 p5 p6 p7 p8 p9 p10 p11
  have x0 := hX.cell 0 _ rfl; have x1 := hX.cell 1 _ rfl; have x2 := hX.cell 2 _ rfl; have xf := hX.frozen
  have hne := fil_ne hf hX
  have HS : Hid (BdS w (((W.setCell ⟨X, 0, none⟩ (.int .i64 u)).setCell ⟨X, 1, none⟩ (.int .i64 x)).setCell ⟨X, 2, none⟩ (.slice (some ⟨Y, 0, none⟩) 0 n)) X Y n u x os 0) := hide ⟨((hB.1.setCell (p := ⟨X, 0, none⟩) (Nat.le_of_lt hXl) _).setCell (p := ⟨X, 1, none⟩) (Nat.le_of_lt hXl) _).setCell (p := ⟨X, 2, none⟩) (Nat.le_of_lt hXl) _, hv_set (hv_set (hv_set hX 0 _) 1 _) 2 _, hv_other (hv_other (hv_other hB.2 (by omega) 0 _) (by omega) 1 _) (by omega) 2 _, hf.gr ((heap_setCell_other _ _ Y _ (fun e => hne e.symm)).trans ((heap_setCell_other _ _ Y _ (fun e => hne e.symm)).trans (heap_setCell_other _ _ Y _ (fun e => hne e.symm)))), hne, hXl⟩
  clear hB hf hX hXl hne HZ0
  go_simp
  refine hKK _ _ ?_
  clear hKK KK x0 x1 x2 xf
  generalize (((W.setCell ⟨X, 0, none⟩ (.int .i64 u)).setCell ⟨X, 1, none⟩ (.int .i64 x)).setCell ⟨X, 2, none⟩ (.slice (some ⟨Y, 0, none⟩) 0 n)) = W1 at *
  have l3 := (HD.out.next HS.out.bel).head.cell 3 _ rfl
  go_wp2_with fail
  clear l3
  go_loopw [4] (fun t w2 => ∃ xs ys : List (Nat × PieceM), Hid (ns = xs ++ ys) ∧ t = ptO (fstO ys none) ∧ Hid (BdS w w2 X Y n u x os xs.length)) (fun t _ => posOf (bks ns) t)
  case atStart => exact ⟨[], ns, hide rfl, rfl, HS⟩
  case round =>
    obtain ⟨xs, ys, HXY, rfl, HS⟩ := hrel
    cases ys with
    | nil =>
      have HX2 : Hid (xs.length = n) := hide (by rw [HNN.out, HXY.out, List.append_nil])
      have r0 := HS.out.res.cell 0 _ rfl; have r1 := HS.out.res.cell 1 _ rfl; have r2 := HS.out.res.cell 2 _ rfl; have rf := HS.out.res.frozen
      have b0 := HS.out.box.cell 0 _ rfl; have b1 := HS.out.box.cell 1 _ rfl
      have b2 : wr.cell? ⟨X, 2, none⟩ = some (.slice (some ⟨Y, 0, none⟩) n n) := by have := HS.out.box.cell 2 _ rfl; rw [HX2.out] at this; exact this
      have hne : X ≠ w.heap.size := by have := HS.out.ne.2; omega
      have HFin : Hid (∀ W', wr.grownBy W' (some w.heap.size) → OwnP W' w.heap.size (.slice (some ⟨Y, 0, none⟩) n n) (ns.map Prod.snd) ∧ Below w.heap.size w W') := hide (fun W' hg => by
        have hf := HS.out.fil
        rw [HX2.out] at hf
        have hf2 := hf.gr (hg.block Y hf.lt.1 (fun e => by cases e; have := hf.lt.2; omega))
        refine ⟨?_, below_gr HS.out.bel hg HS.out.bel.size (Nat.le_refl _)⟩
        have h2 : ownsAt W' (w.heap.size + 1) 48 6 (.slice (some ⟨Y, 0, none⟩) n n) n (os.flatMap valPiece) := by have := ownsAt.of_row hf2; rw [List.take_of_length_le (by rw [HOL.out]; exact Nat.le_refl _)] at this; exact this
        rw [← HOS.out]
        show ownsAt W' _ _ 6 _ os.length _
        rw [HOL.out]
        exact ownsAt.mono h2 (Nat.le_succ _))
      clear HS HI HI0 HI1 HI2 HD
      simp only [show ptO (fstO ([] : List (Nat × PieceM)) none) = Value.pointer none from rfl]
      go_wp2_with fail
      exact bodyPost_ret (v := .agg #[.int .i64 u, .int .i64 x, .slice (some ⟨Y, 0, none⟩) n n]) (by simp [results, Try.results28, go_sem, r0, r1, r2]) rfl ⟨_, rfl, HFin.out _ (gr_set (gr_set (gr_set (grown_reflp _ _) 0 _) 1 _) 2 _)⟩
    | cons p ys =>
      obtain ⟨c, q⟩ := p
      have HLN := hide (HD.out.nd)
      have HK : Hid (xs.length < n) := hide (by rw [HNN.out, HXY.out, List.length_append, List.length_cons]; omega)
      have HQ : Hid (os.take (xs.length + 1) = os.take xs.length ++ [q]) := hide (by rw [HOS.out, HXY.out, List.map_append, List.map_cons]; have e := tk_one (xs.map Prod.snd) (ys.map Prod.snd) q; rw [List.length_map] at e; exact e)
      have HC : Hid (HoldV w c (lpV q (lstO none xs) (fstO ys none)) lpT) := hide (by have h := HD.out; rw [HXY.out] at h; exact h.at)
      have HP1 : Hid (posOf (bks ns) (.pointer (some ⟨c, 0, none⟩)) = ys.length + 1) := hide (by rw [HXY.out]; exact pos_at (ys := (c, q) :: ys) (by rw [← HXY.out]; exact HLN.out))
      have HP2 : Hid (posOf (bks ns) (ptO (fstO ys none)) = ys.length) := hide (by have e : ns = (xs ++ [(c, q)]) ++ ys := by rw [HXY.out]; simp
                                                                                   rw [e]; exact pos_at (by rw [← e]; exact HLN.out))
      have HXY2 : Hid (ns = (xs ++ [(c, q)]) ++ ys) := hide (by rw [HXY.out]; simp)
      have hlen : (xs ++ [(c, q)]).length = xs.length + 1 := by simp
      generalize hk : xs.length = k at *
      simp only [show ptO (fstO ((c, q) :: ys) none) = Value.pointer (some ⟨c, 0, none⟩) from rfl]
      go_upto_region 5 with fail
      refine wp_region_last2 (fun W W2 => W.grownBy W2 (some Y) ∧ (FilP W (w.heap.size + 1) Y n os (k + 1) → FilP W2 (w.heap.size + 1) Y n os (k + 1))) (fun W => BdS w W X Y n u x os k) (A5b w X Y c n os q k) _ rfl (by kernel_rfl) (by kernel_rfl) (by kernel_rfl) (by kernel_rfl) A5b_kept (HS.out.next ((Below.refl _ _).drew)) ?_ ?_
      · clear HS
        refine EachBut.one _ _ _ ?_ ?_
        · intro v W hB hp KK hKK
          rw [if_pos (by rfl)]
          have hp1 : AllOf (A5b w X Y c n os q k) v W [] := hp
          clear hp
          simp only [putAll, Act.put, List.setIfInBounds_toArray, List.set_cons_zero, List.set_cons_succ, Nat.reduceAdd] at hKK ⊢
          clear hp1
          go_simp
          refine hKK _ _ ⟨grown_reflp _ _, id⟩ hB ?_
          rfl
        refine EachBut.one _ _ _ ?_ ?_
        · intro v W hB hp KK hKK
          rw [if_pos (by rfl)]
          have hp1 : AllOf (A5b w X Y c n os q k) v W [0] := hp
          clear hp
          simp only [putAll, Act.put, List.setIfInBounds_toArray, List.set_cons_zero, List.set_cons_succ, Nat.reduceAdd] at hKK ⊢
          have e0 : v 0 = .pointer (some ⟨X, 2, none⟩) := hp1.1
          have hc := hB.box.cell 2 _ rfl
          simp only [e0] at hKK ⊢
          clear e0
          clear hp1
          go_simp
          refine hKK _ _ ⟨grown_reflp _ _, id⟩ hB ?_
          rfl
        refine EachBut.one _ _ _ ?_ ?_
        · intro v W hB hp KK hKK
          rw [if_pos (by rfl)]
          have hp1 : AllOf (A5b w X Y c n os q k) v W [] := hp
          clear hp
          simp only [putAll, Act.put, List.setIfInBounds_toArray, List.set_cons_zero, List.set_cons_succ, Nat.reduceAdd] at hKK ⊢
          clear hp1
          go_simp
          refine hKK _ _ ⟨grown_reflp _ _, id⟩ hB ?_
          rfl
        refine EachBut.one _ _ _ ?_ ?_
        · intro v W hB hp KK hKK
          rw [if_pos (by rfl)]
          have hp1 : AllOf (A5b w X Y c n os q k) v W [2] := hp
          clear hp
          simp only [putAll, Act.put, List.setIfInBounds_toArray, List.set_cons_zero, List.set_cons_succ, Nat.reduceAdd] at hKK ⊢
          have e2 : v 2 = .pointer (some ⟨c, 0, none⟩) := hp1.1
          simp only [e2] at hKK ⊢
          clear e2
          clear hp1
          go_simp
          refine hKK _ _ ⟨grown_reflp _ _, id⟩ hB ?_
          rfl
        refine EachBut.one _ _ _ ?_ ?_
        · intro v W hB hp KK hKK
          rw [if_pos (by rfl)]
          have hp1 : AllOf (A5b w X Y c n os q k) v W [3] := hp
          clear hp
          simp only [putAll, Act.put, List.setIfInBounds_toArray, List.set_cons_zero, List.set_cons_succ, Nat.reduceAdd] at hKK ⊢
          have e3 : v 3 = .pointer (some ⟨c, 0, none⟩) := hp1.1
          simp only [e3] at hKK ⊢
          clear e3
          clear hp1
          go_simp
          refine hKK _ _ ⟨grown_reflp _ _, id⟩ hB ?_
          rfl
        refine EachBut.one _ _ _ ?_ ?_
        · intro v W hB hp KK hKK
          rw [if_pos (by rfl)]
          have hp1 : AllOf (A5b w X Y c n os q k) v W [4] := hp
          clear hp
          simp only [putAll, Act.put, List.setIfInBounds_toArray, List.set_cons_zero, List.set_cons_succ, Nat.reduceAdd] at hKK ⊢
          have e4 : v 4 = .pointer (some ⟨c, 0, none⟩) := hp1.1
          have HCW := HC.out.below hB.bel HC.out.lt
          have h0 := HCW.cell 0 _ rfl; have h1 := HCW.cell 1 _ rfl; have h2 := HCW.cell 2 _ rfl; have h3 := HCW.cell 3 _ rfl; have h4 := HCW.cell 4 _ rfl; have h5 := HCW.cell 5 _ rfl
          clear HCW
          simp only [e4] at hKK ⊢
          clear e4
          clear hp1
          go_simp
          refine hKK _ _ ⟨grown_reflp _ _, id⟩ hB ?_
          rfl
        refine EachBut.one _ _ _ ?_ ?_
        · intro v W hB hp KK hKK
          rw [if_pos (by rfl)]
          have hp1 : AllOf (A5b w X Y c n os q k) v W [5] := hp
          clear hp
          simp only [putAll, Act.put, List.setIfInBounds_toArray, List.set_cons_zero, List.set_cons_succ, Nat.reduceAdd] at hKK ⊢
          have e5 : v 5 = pcV q := hp1.1
          simp only [e5] at hKK ⊢
          clear e5
          clear hp1
          have HB := hide hB
          clear hB
          go_simp
          have hal : Below W.heap.size W (W.alloc (.cells #[.int .i64 q.f0, .int .i64 q.f1, .int .i64 q.f2, .int .i64 q.f3, .bool q.f4, .bool q.f5] 48)) := (Below.refl _ _).alloc (Nat.le_refl _) _
          refine hKK _ _ ⟨World.grownBy_alloc W _ _, fun hf => hf.gr (hal.block Y hf.lt.1)⟩ (HB.out.next hal) ?_
          exact ⟨W.heap.size, rfl, hv_new _ _ _, by have := HB.out.fil.lt.1; omega⟩
        refine EachBut.one _ _ _ ?_ ?_
        · intro v W hB hp KK hKK
          rw [if_pos (by rfl)]
          have hp1 : AllOf (A5b w X Y c n os q k) v W [1, 6] := hp
          clear hp
          simp only [putAll, Act.put, List.setIfInBounds_toArray, List.set_cons_zero, List.set_cons_succ, Nat.reduceAdd] at hKK ⊢
          have e1 : v 1 = .slice (some ⟨Y, 0, none⟩) k n := hp1.1
          obtain ⟨b, e6, hb, hbY⟩ := hp1.2.1
          simp only [e1] at hKK ⊢
          clear e1
          simp only [e6] at hKK ⊢
          clear e6
          have HB := hide hB
          clear hB
          have hl : ∀ j u, (valPiece q)[j]? = some u → W.cell? ((⟨b, 0, none⟩ : Addr).add j) = some u := by
            intro j u hj
            have hj6 : j < 6 := (List.getElem?_eq_some_iff.1 hj).1
            rcases (show j = 0 ∨ j = 1 ∨ j = 2 ∨ j = 3 ∨ j = 4 ∨ j = 5 by omega) with rfl | rfl | rfl | rfl | rfl | rfl <;> (injection hj with hj; subst hj)
            · exact hb.cell 0 _ rfl
            · exact hb.cell 1 _ rfl
            · exact hb.cell 2 _ rfl
            · exact hb.cell 3 _ rfl
            · exact hb.cell 4 _ rfl
            · exact hb.cell 5 _ rfl
          refine wp_append_own_spare _ (.tmp 30) (.tmp 35) 27 rfl (w.heap.size + 1) 48 i 6 Try.underlying27 HI.out HI1.out Y k n _ rfl HB.out.fil ⟨b, 0, none⟩ 1 1 (valPiece q) rfl rfl hl (by intro u hu; simp [valPiece] at hu; rcases hu with rfl | rfl | rfl | rfl | rfl | rfl <;> rfl) (by have := HK.out; omega) ?_
          intro w2 hown hgr
          have HF : Hid (FilP w2 (w.heap.size + 1) Y n os (k + 1)) := hide (by unfold FilP; rw [HQ.out, List.flatMap_append]; simpa using hown)
          have HB2 : Hid (BdS w w2 X Y n u x os k) := hide ⟨below_gr HB.out.bel hgr HB.out.bel.size (by have := HB.out.fil.lt.2; omega), hv_gr HB.out.box hgr HB.out.ne.1, hv_gr HB.out.res hgr (by have := HB.out.fil.lt.2; omega), HF.out.back (by rw [HOL.out]; exact HK.out), HB.out.ne⟩
          refine hKK _ _ ⟨hgr, fun _ => HF.out⟩ HB2.out ?_
          exact ⟨rfl, HF.out⟩
        refine EachBut.one _ _ _ ?_ ?_
        · intro v W hB hp KK hKK
          rw [if_pos (by rfl)]
          have hp1 : AllOf (A5b w X Y c n os q k) v W [0, 1, 2, 3, 4, 5, 6, 7] := hp
          clear hp
          simp only [putAll, Act.put, List.setIfInBounds_toArray, List.set_cons_zero, List.set_cons_succ, Nat.reduceAdd] at hKK ⊢
          clear hp1
          go_simp
          refine hKK _ _ ⟨grown_reflp _ _, id⟩ hB ?_
          rfl
        · exact trivial
      intro v W hB hA KK hKK
      rw [if_pos (by rfl)]
      simp only [putAll, Act.put, List.setIfInBounds_toArray, List.set_cons_zero, List.set_cons_succ, Nat.reduceAdd]
      have p0 : A5b w X Y c n os q k 0 (v 0) W := hA 0 (by decide)
      have p1 : A5b w X Y c n os q k 1 (v 1) W := hA 1 (by decide)
      have p2 : A5b w X Y c n os q k 2 (v 2) W := hA 2 (by decide)
      have p3 : A5b w X Y c n os q k 3 (v 3) W := hA 3 (by decide)
      have p4 : A5b w X Y c n os q k 4 (v 4) W := hA 4 (by decide)
      have p5 : A5b w X Y c n os q k 5 (v 5) W := hA 5 (by decide)
      have p6 : A5b w X Y c n os q k 6 (v 6) W := hA 6 (by decide)
      have p7 : A5b w X Y c n os q k 7 (v 7) W := hA 7 (by decide)
      have p8 : A5b w X Y c n os q k 8 (v 8) W := hA 8 (by decide)
      clear hA
      have e0 : v 0 = .pointer (some ⟨X, 2, none⟩) := p0
      have e1 : v 1 = .slice (some ⟨Y, 0, none⟩) k n := p1
      have e2 : v 2 = .pointer (some ⟨c, 0, none⟩) := p2
      have e3 : v 3 = .pointer (some ⟨c, 0, none⟩) := p3
      have e4 : v 4 = .pointer (some ⟨c, 0, none⟩) := p4
      have e5 : v 5 = pcV q := p5
      have e8 : v 8 = .pointer (some ⟨X, 2, none⟩) := p8
      obtain ⟨b6, e6, _⟩ := p6
      obtain ⟨e7, hf⟩ := p7
      simp only [e0, e1, e2, e3, e4, e5, e6, e7, e8]
      clear e0 e1 e2 e3 e4 e5 e6 e7 e8 p0 p1 p2 p3 p4 p5 p8
      have x2 := hB.box.cell 2 _ rfl; have xf := hB.box.frozen
      have HS2 : Hid (BdS w (W.setCell ⟨X, 2, none⟩ (.slice (some ⟨Y, 0, none⟩) (k + 1) n)) X Y n u x os (k + 1)) := hide ⟨hB.bel.setCell (p := ⟨X, 2, none⟩) (Nat.le_of_lt hB.ne.2) _, hv_set hB.box 2 _, hv_other hB.res (by have := hB.ne.2; omega) 2 _, hf.gr (heap_setCell_other _ _ Y _ (fun e => hB.ne.1 e.symm)), hB.ne⟩
      clear hB hf HS
      go_simp
      refine hKK _ _ ?_
      clear hKK KK x2 xf
      generalize W.setCell ⟨X, 2, none⟩ (.slice (some ⟨Y, 0, none⟩) (k + 1) n) = W3 at *
      have n7 := (HC.out.below HS2.out.bel HC.out.lt).cell 7 _ rfl
      go_wp2_with fail
      exact ⟨⟨xs ++ [(c, q)], ys, HXY2, rfl, hide (by rw [hlen]; exact HS2.out)⟩, by rw [HP1.out, HP2.out]; omega⟩
set_option maxRecDepth 100000
/-- How much is on the way. -/
def pipeS : List PieceM → Int
  | [] => 0
  | o :: r => (if o.f4 = false ∧ o.f5 = false then o.f1 - o.f0 else 0) + pipeS r
theorem pipeS_app : ∀ (a b : List PieceM), pipeS (a ++ b) = pipeS a + pipeS b
  | [], b => by simp [pipeS]
  | o :: a, b => by show _ + pipeS (a ++ b) = _ + pipeS a + pipeS b; rw [pipeS_app a b]; omega
theorem chk_app : ∀ (a b : List PieceM) (u x : Int), chk u (a ++ b) = some x → ∃ m, chk u a = some m ∧ chk m b = some x
  | [], b, u, x, h => ⟨u, rfl, h⟩
  | o :: a, b, u, x, h => by
    rw [List.cons_append] at h
    by_cases hh : o.f0 = u ∧ vp o
    · rw [chk_cons hh.1 hh.2] at h
      obtain ⟨m, h1, h2⟩ := chk_app a b _ _ h
      exact ⟨m, by rw [chk_cons hh.1 hh.2]; exact h1, h2⟩
    · rw [chk_ill hh] at h; cases h
theorem pipe_le : ∀ (a : List PieceM) (u m : Int), chk u a = some m → 0 ≤ pipeS a ∧ pipeS a ≤ m - u
  | [], u, m, h => by cases h; simp [pipeS]
  | o :: a, u, m, h => by
    by_cases hh : o.f0 = u ∧ vp o
    · rw [chk_cons hh.1 hh.2] at h
      have h1 := pipe_le a _ _ h
      have h2 := hh.2.1
      unfold pipeS
      split <;> omega
    · rw [chk_ill hh] at h; cases h
/-- A part of a valid board: its sum's bounds, and those of a piece in it. -/
theorem bOK_parts {u x : Int} {a b : List PieceM} (h : bOK u x (a ++ b)) : 0 ≤ pipeS a ∧ pipeS a ≤ 1099511627776 := by
  obtain ⟨m, h1, h2⟩ := chk_app a b _ _ h.2.2.2
  have h3 := pipe_le _ _ _ h1
  have h4 := chk_le _ _ _ h2
  have := h.1; have := h.2.1
  omega
theorem bOK_piece {u x : Int} {os : List PieceM} (h : bOK u x os) {o : PieceM} (ho : o ∈ os) : 0 ≤ o.f0 ∧ o.f0 < o.f1 ∧ o.f1 ≤ 1099511627776 := by
  have h1 := chk_mem _ _ _ h.2.2.2 o ho
  have := h.1; have := h.2.1; have := h1.2.2.1
  omega
theorem pc_box (w : World) (x0 x1 x2 x3 : Int) (x4 x5 : Bool) : HoldV (w.alloc (.cells #[.int .i64 x0, .int .i64 x1, .int .i64 x2, .int .i64 x3, .bool x4, .bool x5] 48)) w.heap.size #[.int .i64 x0, .int .i64 x1, .int .i64 x2, .int .i64 x3, .bool x4, .bool x5] 48 := heap_alloc_new _ _
theorem size_walk (x0 x1 x2 x3 : Int) (x4 x5 : Bool) (w : World) (h0 : 0 ≤ x0) (h1 : x0 < x1) (h2 : x1 ≤ 1099511627776) : Calls Try.prog 42 #[.agg #[.int .i64 x0, .int .i64 x1, .int .i64 x2, .int .i64 x3, .bool x4, .bool x5]] w fun e w' => e = .returned (.int .i64 (x1 - x0)) ∧ Below w.heap.size w w' := by
  have HB := hide (pc_box w x0 x1 x2 x3 x4 x5)
  have HW := hide ((Below.refl w.heap.size w).alloc (Nat.le_refl _) (.cells #[.int .i64 x0, .int .i64 x1, .int .i64 x2, .int .i64 x3, .bool x4, .bool x5] 48))
  have k0 := HB.out.cell 0 _ rfl; have k1 := HB.out.cell 1 _ rfl
  go_enter Try.func42, Try.ntmps42
  go_wp2_with fail
  go_ret
  exact ⟨rfl, HW.out⟩
theorem onWay_walk (x0 x1 x2 x3 : Int) (x4 x5 : Bool) (w : World) : Calls Try.prog 41 #[.agg #[.int .i64 x0, .int .i64 x1, .int .i64 x2, .int .i64 x3, .bool x4, .bool x5]] w fun e w' => e = .returned (.bool (!x4 && !x5)) ∧ Below w.heap.size w w' := by
  have HB := hide (pc_box w x0 x1 x2 x3 x4 x5)
  have HW := hide ((Below.refl w.heap.size w).alloc (Nat.le_refl _) (.cells #[.int .i64 x0, .int .i64 x1, .int .i64 x2, .int .i64 x3, .bool x4, .bool x5] 48))
  have k4 := HB.out.cell 4 _ rfl; have k5 := HB.out.cell 5 _ rfl
  cases x4 <;> cases x5 <;>
  (go_enter Try.func41, Try.ntmps41
   go_wp2_with fail
   go_ret
   exact ⟨rfl, HW.out⟩)
set_option maxHeartbeats 8000000 in
theorem onTheWay_walk (B L : Nat) (u x : Int) (ns : List (Nat × PieceM)) (w : World) (h : DL w B L u x ns) (hok : bOK u x (ns.map Prod.snd)) :
    Calls Try.prog 22 #[.pointer (some ⟨L, 0, none⟩)] w fun e w' => e = .returned (.int .i64 (pipeS (ns.map Prod.snd))) ∧ Below w.heap.size w w' := by
  have HD := hide h; have HOK := hide hok
  have l3 := h.head.cell 3 _ rfl
  clear h hok
  go_enter Try.func22, Try.ntmps22
  go_wp2_with fail
  clear l3
  go_loopw [3, 4] (fun s t w2 => ∃ xs ys : List (Nat × PieceM), Hid (ns = xs ++ ys) ∧ t = ptO (fstO ys none) ∧ s = .int .i64 (pipeS (xs.map Prod.snd)) ∧ Below w.heap.size w w2) (fun _ t _ => posOf (bks ns) t)
  case atStart => exact ⟨[], ns, hide rfl, rfl, rfl, Below.refl _ _⟩
  case round =>
    obtain ⟨xs, ys, HXY, rfl, rfl, hb⟩ := hrel
    cases ys with
    | nil =>
      have HF : Hid (pipeS (ns.map Prod.snd) = pipeS (xs.map Prod.snd)) := hide (by rw [HXY.out, List.append_nil])
      generalize pipeS (xs.map Prod.snd) = s at *
      simp only [show ptO (fstO ([] : List (Nat × PieceM)) none) = Value.pointer none from rfl]
      go_wp2_with fail
      go_ret
      exact ⟨ret_int HF.out.symm, hb⟩
    | cons p ys =>
      obtain ⟨c, q⟩ := p
      have HLN := hide (HD.out.nd)
      have HC := hide (show HoldV wr c (lpV q (lstO none xs) (fstO ys none)) lpT from by have h := HD.out; rw [HXY.out] at h; exact h.at.next hb)
      have HP1 : Hid (posOf (bks ns) (.pointer (some ⟨c, 0, none⟩)) = ys.length + 1) := hide (by rw [HXY.out]; exact pos_at (ys := (c, q) :: ys) (by rw [← HXY.out]; exact HLN.out))
      have HXY2 : Hid (ns = (xs ++ [(c, q)]) ++ ys) := hide (by rw [HXY.out]; simp)
      have HP2 : Hid (posOf (bks ns) (ptO (fstO ys none)) = ys.length) := hide (by rw [HXY2.out]; exact pos_at (by rw [← HXY2.out]; exact HLN.out))
      have HS2 : Hid (pipeS ((xs ++ [(c, q)]).map Prod.snd) = pipeS (xs.map Prod.snd) + (if q.f4 = false ∧ q.f5 = false then q.f1 - q.f0 else 0)) := hide (by rw [List.map_append, pipeS_app]; simp [pipeS])
      obtain ⟨s0, s1⟩ : 0 ≤ pipeS (xs.map Prod.snd) ∧ pipeS (xs.map Prod.snd) ≤ 1099511627776 := bOK_parts (b := (((c, q) :: ys).map Prod.snd)) (by have h := HOK.out; rw [HXY.out, List.map_append] at h; exact h)
      obtain ⟨q0, q1, q2⟩ : 0 ≤ q.f0 ∧ q.f0 < q.f1 ∧ q.f1 ≤ 1099511627776 := bOK_piece HOK.out (by rw [HXY.out]; simp)
      generalize pipeS (xs.map Prod.snd) = s at *
      simp only [show ptO (fstO ((c, q) :: ys) none) = Value.pointer (some ⟨c, 0, none⟩) from rfl]
      obtain ⟨x0, x1, x2, x3, x4, x5⟩ := q
      try dsimp only at q0 q1 q2 HS2
      have c0 := HC.out.cell 0 _ rfl; have c1 := HC.out.cell 1 _ rfl; have c2 := HC.out.cell 2 _ rfl; have c3 := HC.out.cell 3 _ rfl; have c4 := HC.out.cell 4 _ rfl; have c5 := HC.out.cell 5 _ rfl
      try dsimp only at c0 c1 c2 c3 c4 c5
      have CW := hide (onWay_walk x0 x1 x2 x3 x4 x5 wr)
      go_wp2_with fail
      refine CW.out.mono ?_
      rintro e w3 ⟨rfl, hb3⟩
      have HC3 := hide (HC.out.next hb3)
      have hbb : Below w.heap.size w w3 := hb.trans (hb3.mono hb.size)
      clear hb3 HC CW c0 c1 c2 c3 c4 c5 hb
      have c0 := HC3.out.cell 0 _ rfl; have c1 := HC3.out.cell 1 _ rfl; have c2 := HC3.out.cell 2 _ rfl; have c3 := HC3.out.cell 3 _ rfl; have c4 := HC3.out.cell 4 _ rfl; have c5 := HC3.out.cell 5 _ rfl; have c7 := HC3.out.cell 7 _ rfl
      try dsimp only at c0 c1 c2 c3 c4 c5
      cases hw : (!x4 && !x5) with
      | false =>
        have HS3 : Hid (pipeS ((xs ++ [(c, PieceM.mk x0 x1 x2 x3 x4 x5)]).map Prod.snd) = s) := hide (by rw [HS2.out, if_neg (by cases x4 <;> cases x5 <;> simp_all)]; omega)
        go_wp2_with fail
        exact ⟨⟨xs ++ [(c, PieceM.mk x0 x1 x2 x3 x4 x5)], ys, HXY2, rfl, by rw [HS3.out], hbb⟩, by rw [HP1.out, HP2.out]; omega⟩
      | true =>
        have HS3 : Hid (pipeS ((xs ++ [(c, PieceM.mk x0 x1 x2 x3 x4 x5)]).map Prod.snd) = s + (x1 - x0)) := hide (by rw [HS2.out, if_pos (by cases x4 <;> cases x5 <;> simp_all)])
        have CZ := hide (size_walk x0 x1 x2 x3 x4 x5 w3 q0 q1 q2)
        go_wp2_with fail
        refine CZ.out.mono ?_
        rintro e w4 ⟨rfl, hb4⟩
        have hbc : Below w.heap.size w w4 := hbb.trans (hb4.mono hbb.size)
        have c7' := (HC3.out.next hb4).cell 7 _ rfl
        clear hb4 CZ c7 c0 c1 c2 c3 c4 c5 hbb
        go_wp2_with fail
        exact ⟨⟨xs ++ [(c, PieceM.mk x0 x1 x2 x3 x4 x5)], ys, HXY2, rfl, by rw [HS3.out], hbc⟩, by rw [HP1.out, HP2.out]; omega⟩
set_option maxRecDepth 100000
theorem app_nothing {P : Program} (w : World) (t ty e : TypeId) (i : TypeInfo) (ht : P.underlying t = some (.slice e)) (hi : P.info? e = some i) (g : Nat) (aa : Option Addr) (c : Nat) :
    (Builtin.append_ #[t, t] ty #[.slice (some ⟨g, 0, none⟩) 0 0, .slice aa 0 c]).run P w = .ok (.slice (some ⟨g, 0, none⟩) 0 0) w := by
  cases aa <;> simp [Builtin.append_, run_underlying ht, sizeOf, typeInfo, hi, Builtin.lenOf, Builtin.firstCells, storeCells, loadCells, loadCellsFrom]
theorem wp_append_grows {P : Program} {o : Oper} {a : Act} {w : World} {K : Act → World → Prop} {Q : Exit → Act → World → Prop}
    (hg : o.guard = none) (s x : Operand) (t : TypeId) (hop : o.op = Op.call { callee := Callee.builtin Builtin.append, args := #[s, x], argTypes := #[t, t] })
    (e : TypeId) (i : TypeInfo) (z : Value) (size bytes : Nat) (h1 : P.underlying t = some (.slice e)) (h2 : P.info? e = some i) (h3 : i.zero = some z) (h4 : i.size = size) (h5 : i.bytes = bytes) (h6 : z.cells.size = size) (h7 : 0 < size)
    (ao : Option Addr) (n cap : Nat) (olds : List Value) (hs : a.eval s = .slice ao n cap) (hnone : ao = none → n = 0 ∧ cap = 0) (hlo : olds.length = n * size) (holds : ∀ b, ao = some b → ∀ j u, olds[j]? = some u → w.cell? (b.add j) = some u)
    (ad : Addr) (m c : Nat) (news : List Value) (hx : a.eval x = .slice (some ad) m c) (hn : news.length = m * size) (hc : ∀ j u, news[j]? = some u → w.cell? (ad.add j) = some u) (h1c : ∀ u ∈ news, u.oneCell' = true)
    (hfull : cap < n + m) (b1 : n + m ≤ maxLen) (b2 : (n + m) * bytes ≤ 140737488355328)
    (hK : ∀ v' w', w'.ownsRow w.heap.size e size v' (n + m) (olds ++ news) → w.grownBy w' none → K (a.put o.dst v') w') : Oper.wp P o a w K Q := by
  have h := step_append_grows (ops := #[]) (E := True) (Q := Q) hg s x t hop e i z size bytes h1 h2 h3 h4 h5 h6 h7 ao n cap olds hs hnone hlo holds ad m c news hx hn hc h1c hfull b1 b2 hK
  rwa [if_pos (by simp [Region.wanted, hg])] at h
theorem val_one (os : List PieceM) : ∀ u ∈ os.flatMap valPiece, u.oneCell' = true := by
  intro u hu
  obtain ⟨o, _, hu⟩ := List.mem_flatMap.1 hu
  simp [valPiece] at hu
  rcases hu with rfl | rfl | rfl | rfl | rfl | rfl <;> rfl
theorem two_boxes (w : World) (o1 o2 : Array Value) (t1 t2 : Nat) : Below w.heap.size w ((w.alloc (.cells o1 t1)).alloc (.cells o2 t2)) ∧ HoldV ((w.alloc (.cells o1 t1)).alloc (.cells o2 t2)) w.heap.size o1 t1 ∧ HoldV ((w.alloc (.cells o1 t1)).alloc (.cells o2 t2)) (w.heap.size + 1) o2 t2 := by
  obtain ⟨h1, h2, h3⟩ := two_allocs w (.cells o1 t1) (.cells o2 t2)
  exact ⟨h1, h2, h3⟩
/-- An own row of pieces, of a world. -/
def RowP (W : World) (BB : Nat) (v : Value) (n : Nat) (os : List PieceM) : Prop := W.ownsRow BB 48 6 v n (os.flatMap valPiece)
theorem RowP.next {W W' : World} {BB n : Nat} {v : Value} {os : List PieceM} (h : RowP W BB v n os) (hb : Below W.heap.size W W') : RowP W' BB v n os := by
  refine ⟨h.1, ?_⟩
  rcases h.2 with h0 | ⟨g, cap, cur, hv, hB, hg, hrest⟩
  · exact .inl h0
  · exact .inr ⟨g, cap, cur, hv, hB, by rw [hb.block g (Array.getElem?_eq_some_iff.1 hg).1]; exact hg, hrest⟩
theorem RowP.form {W : World} {BB n : Nat} {v : Value} {os : List PieceM} (h : RowP W BB v n os) : ∃ a cap, v = .slice a n cap := by
  rcases h.2 with ⟨h0, h1⟩ | ⟨g, cap, cur, hv, _⟩
  · exact ⟨none, 0, by rw [h0, h1]⟩
  · exact ⟨_, _, hv⟩
def A33 (w : World) (X n c : Nat) (u x : Int) (aa : Option Addr) (os : List PieceM) : Nat → Value → World → Prop
  | 0, v, _ => v = .pointer (some ⟨X, 0, none⟩)
  | 1, v, _ => v = .int .i64 u
  | 2, v, _ => v = .pointer (some ⟨X, 1, none⟩)
  | 3, v, _ => v = .int .i64 x
  | 4, v, W => ∃ g : Nat, v = .slice (some ⟨g, 0, none⟩) 0 0 ∧ RowP W (w.heap.size + 2) (.slice (some ⟨g, 0, none⟩) 0 0) 0 []
  | 5, v, _ => v = .pointer (some ⟨X, 2, none⟩)
  | 6, v, _ => v = .slice aa n c
  | 7, v, W => RowP W (w.heap.size + 2) v n os
  | 8, v, W => ∃ v7 : Value, v = .agg #[.int .i64 u, .int .i64 x, v7] ∧ RowP W (w.heap.size + 2) v7 n os
  | _, _, _ => True
theorem A33_kept {w : World} {X n c : Nat} {u x : Int} {aa : Option Addr} {os : List PieceM} : ∀ (i : Nat) (v : Value) (W W' : World), Below W.heap.size W W' → A33 w X n c u x aa os i v W → A33 w X n c u x aa os i v W' := by
  intro i v W W' hg h
  unfold A33 at h ⊢
  split at h
  all_goals first
    | exact h
    | exact h.next hg
    | (obtain ⟨g, e, hh⟩ := h; exact ⟨g, e, hh.next hg⟩)
set_option maxHeartbeats 16000000 in
theorem l15Copy_walk (u x : Int) (aa : Option Addr) (n c : Nat) (os : List PieceM) (w : World) (hn : os.length = n) (ha : ArrP w aa (os.flatMap valPiece)) (hm : n ≤ 1048576) :
    Calls Try.prog 24 #[.agg #[.int .i64 u, .int .i64 x, .slice aa n c]] w fun e w' => ∃ v : Value, e = .returned (.agg #[.int .i64 u, .int .i64 x, v]) ∧ RowP w' (w.heap.size + 2) v n os ∧ Below w.heap.size w w' := by
  obtain ⟨hb2, hX, hR⟩ := two_boxes w #[.int .i64 u, .int .i64 x, .slice aa n c] #[.int .i64 0, .int .i64 0, .slice none 0 0] 29 29
  have HB2 := hide hb2; have HX := hide hX; have HR := hide hR
  obtain ⟨i, hi, hz0, hz1, hz2⟩ := info_parts Try.infoPiece
  have HI := hide hi; have HI0 := hide hz0; have HI1 := hide hz1; have HI2 := hide hz2
  have HN := hide hn; have HA := hide ha
  have HL : Hid ((os.flatMap valPiece).length = n * 6) := hide (by rw [vlen valPiece 6 valPiece_len, hn])
  clear hb2 hX hR hi hz0 hz1 hz2 hn ha
  go_enter Try.func24, Try.ntmps24
  go_upto_region 1 with fail
  obtain ⟨X, hXe⟩ : ∃ X, X = w.heap.size := ⟨_, rfl⟩
  refine wp_region_last2 (fun W W' => Below W.heap.size W W') (fun W => Below w.heap.size w W ∧ HoldV W w.heap.size #[.int .i64 u, .int .i64 x, .slice aa n c] 29 ∧ HoldV W (w.heap.size + 1) #[.int .i64 0, .int .i64 0, .slice none 0 0] 29) (A33 w w.heap.size n c u x aa os) _ rfl (by kernel_rfl) (by kernel_rfl) (by kernel_rfl) (by kernel_rfl) A33_kept ⟨HB2.out.drew, HX.out, HR.out⟩ ?_ ?_
  · clear HB2 HX HR
    refine EachBut.one _ _ _ ?_ ?_
    · intro v W hB hp KK hKK
      rw [if_pos (by rfl)]
      have hp1 : AllOf (A33 w w.heap.size n c u x aa os) v W [] := hp
      clear hp
      simp only [putAll, Act.put, List.setIfInBounds_toArray, List.set_cons_zero, List.set_cons_succ, Nat.reduceAdd] at hKK ⊢
      clear hp1
      go_simp
      refine hKK _ _ (Below.refl _ _) hB ?_
      rfl
    refine EachBut.one _ _ _ ?_ ?_
    · intro v W hB hp KK hKK
      rw [if_pos (by rfl)]
      have hp1 : AllOf (A33 w w.heap.size n c u x aa os) v W [0] := hp
      clear hp
      simp only [putAll, Act.put, List.setIfInBounds_toArray, List.set_cons_zero, List.set_cons_succ, Nat.reduceAdd] at hKK ⊢
      have e0 : v 0 = .pointer (some ⟨w.heap.size, 0, none⟩) := hp1.1
      have hc := hB.2.1.cell 0 _ rfl
      simp only [e0] at hKK ⊢
      clear e0
      clear hp1
      go_simp
      refine hKK _ _ (Below.refl _ _) hB ?_
      rfl
    refine EachBut.one _ _ _ ?_ ?_
    · intro v W hB hp KK hKK
      rw [if_pos (by rfl)]
      have hp1 : AllOf (A33 w w.heap.size n c u x aa os) v W [] := hp
      clear hp
      simp only [putAll, Act.put, List.setIfInBounds_toArray, List.set_cons_zero, List.set_cons_succ, Nat.reduceAdd] at hKK ⊢
      clear hp1
      go_simp
      refine hKK _ _ (Below.refl _ _) hB ?_
      rfl
    refine EachBut.one _ _ _ ?_ ?_
    · intro v W hB hp KK hKK
      rw [if_pos (by rfl)]
      have hp1 : AllOf (A33 w w.heap.size n c u x aa os) v W [2] := hp
      clear hp
      simp only [putAll, Act.put, List.setIfInBounds_toArray, List.set_cons_zero, List.set_cons_succ, Nat.reduceAdd] at hKK ⊢
      have e2 : v 2 = .pointer (some ⟨w.heap.size, 1, none⟩) := hp1.1
      have hc := hB.2.1.cell 1 _ rfl
      simp only [e2] at hKK ⊢
      clear e2
      clear hp1
      go_simp
      refine hKK _ _ (Below.refl _ _) hB ?_
      rfl
    refine EachBut.one _ _ _ ?_ ?_
    · intro v W hB hp KK hKK
      rw [if_pos (by rfl)]
      have hp1 : AllOf (A33 w w.heap.size n c u x aa os) v W [] := hp
      clear hp
      simp only [putAll, Act.put, List.setIfInBounds_toArray, List.set_cons_zero, List.set_cons_succ, Nat.reduceAdd] at hKK ⊢
      clear hp1
      have HB := hide hB
      clear hB
      go_simp
      refine hKK _ _ ((Below.refl _ _).alloc (Nat.le_refl _) _) ⟨HB.out.1.alloc HB.out.1.size _, HB.out.2.1.next ((Below.refl _ _).alloc (Nat.le_refl _) _), HB.out.2.2.next ((Below.refl _ _).alloc (Nat.le_refl _) _)⟩ ?_
      refine ⟨W.heap.size, rfl, ?_⟩
      exact (World.ownsRow_lit (base := w.heap.size + 2) (e := 48) (size := 6) W #[] 0 (by have := HB.out.2.2.lt; omega) (by decide) rfl)
    refine EachBut.one _ _ _ ?_ ?_
    · intro v W hB hp KK hKK
      rw [if_pos (by rfl)]
      have hp1 : AllOf (A33 w w.heap.size n c u x aa os) v W [] := hp
      clear hp
      simp only [putAll, Act.put, List.setIfInBounds_toArray, List.set_cons_zero, List.set_cons_succ, Nat.reduceAdd] at hKK ⊢
      clear hp1
      go_simp
      refine hKK _ _ (Below.refl _ _) hB ?_
      rfl
    refine EachBut.one _ _ _ ?_ ?_
    · intro v W hB hp KK hKK
      rw [if_pos (by rfl)]
      have hp1 : AllOf (A33 w w.heap.size n c u x aa os) v W [5] := hp
      clear hp
      simp only [putAll, Act.put, List.setIfInBounds_toArray, List.set_cons_zero, List.set_cons_succ, Nat.reduceAdd] at hKK ⊢
      have e5 : v 5 = .pointer (some ⟨w.heap.size, 2, none⟩) := hp1.1
      have hc := hB.2.1.cell 2 _ rfl
      simp only [e5] at hKK ⊢
      clear e5
      clear hp1
      go_simp
      refine hKK _ _ (Below.refl _ _) hB ?_
      rfl
    refine EachBut.one _ _ _ ?_ ?_
    · intro v W hB hp KK hKK
      rw [if_pos (by rfl)]
      have hp1 : AllOf (A33 w w.heap.size n c u x aa os) v W [4, 6] := hp
      clear hp
      simp only [putAll, Act.put, List.setIfInBounds_toArray, List.set_cons_zero, List.set_cons_succ, Nat.reduceAdd] at hKK ⊢
      have e6 : v 6 = .slice aa n c := hp1.2.1
      obtain ⟨g, e4, hg⟩ := hp1.1
      simp only [e6] at hKK ⊢
      clear e6
      simp only [e4] at hKK ⊢
      clear e4 hp1
      have HB := hide hB
      clear hB
      by_cases hn0 : n = 0
      · subst hn0
        have hos : os = [] := List.length_eq_zero_iff.1 HN.out
        subst hos
        have hrun := fun ty => app_nothing (P := Try.prog) W 27 ty 48 i Try.underlying27 HI.out g aa c
        unfold Oper.wp
        simp [execOp, resolve, invoke, builtin, Act.eval, hrun, Result.andThen]
        exact hKK _ _ (Below.refl _ _) HB.out hg
      · have HAW := HA.out.below HB.out.1 (Nat.le_refl _)
        obtain ⟨b, off, rfl, hbs, _⟩ := HAW 0 (by rw [HL.out]; omega)
        have hcells : ∀ j u, (os.flatMap valPiece)[j]? = some u → W.cell? ((⟨b, off, none⟩ : Addr).add j) = some u := by
          intro j u hj
          obtain ⟨b2, off2, e2, _, hc2⟩ := HAW j (List.getElem?_eq_some_iff.1 hj).1
          cases e2
          rw [Go.WideShapes.add_plain, hc2, hj]
        refine wp_append_grows rfl (.tmp 7) (.tmp 9) 27 rfl 48 i _ 6 40 Try.underlying27 HI.out HI0.out HI1.out HI2.out rfl (by decide) (some ⟨g, 0, none⟩) 0 0 [] rfl (by simp) rfl (by intro b hb j u hu; simp at hu) ⟨b, off, none⟩ n c (os.flatMap valPiece) rfl HL.out hcells (val_one os) (by omega) (by unfold maxLen; omega) (by omega) ?_
        intro v2 w2 hown hgr
        have hbl : Below W.heap.size W w2 := (Below.refl _ _).grown hgr (Nat.le_refl _) (fun k hk => by cases hk)
        rw [Nat.zero_add, List.nil_append] at hown
        refine hKK _ _ hbl ⟨HB.out.1.trans (hbl.mono HB.out.1.size), HB.out.2.1.next hbl, HB.out.2.2.next hbl⟩ ?_
        have hsz := HB.out.2.2.lt
        refine ⟨hown.1, ?_⟩
        rcases hown.2 with h0 | ⟨g2, cap, cur, hv, hB2, hrest⟩
        · exact .inl h0
        · exact .inr ⟨g2, cap, cur, hv, by omega, hrest⟩
    refine EachBut.one _ _ _ ?_ ?_
    · intro v W hB hp KK hKK
      rw [if_pos (by rfl)]
      have hp1 : AllOf (A33 w w.heap.size n c u x aa os) v W [1, 3, 7] := hp
      clear hp
      simp only [putAll, Act.put, List.setIfInBounds_toArray, List.set_cons_zero, List.set_cons_succ, Nat.reduceAdd] at hKK ⊢
      have e1 : v 1 = .int .i64 u := hp1.1
      have e3 : v 3 = .int .i64 x := hp1.2.1
      have h7 : RowP W (w.heap.size + 2) (v 7) n os := hp1.2.2.1
      simp only [e1, e3] at hKK ⊢
      clear e1 e3
      clear hp1
      obtain ⟨b7, c7, e7⟩ := h7.form
      simp only [e7] at hKK ⊢
      rw [e7] at h7
      clear e7
      have H7 := hide h7
      clear h7
      go_simp
      refine hKK _ _ (Below.refl _ _) hB ?_
      exact ⟨_, rfl, H7.out⟩
    · exact trivial
  intro v W hB hA KK hKK
  rw [if_pos (by rfl)]
  simp only [putAll, Act.put, List.setIfInBounds_toArray, List.set_cons_zero, List.set_cons_succ, Nat.reduceAdd]
  have p0 : (A33 w w.heap.size n c u x aa os) 0 (v 0) W := hA 0 (by decide)
  have p1 : (A33 w w.heap.size n c u x aa os) 1 (v 1) W := hA 1 (by decide)
  have p2 : (A33 w w.heap.size n c u x aa os) 2 (v 2) W := hA 2 (by decide)
  have p3 : (A33 w w.heap.size n c u x aa os) 3 (v 3) W := hA 3 (by decide)
  have p4 : (A33 w w.heap.size n c u x aa os) 4 (v 4) W := hA 4 (by decide)
  have p5 : (A33 w w.heap.size n c u x aa os) 5 (v 5) W := hA 5 (by decide)
  have p6 : (A33 w w.heap.size n c u x aa os) 6 (v 6) W := hA 6 (by decide)
  have p7 : (A33 w w.heap.size n c u x aa os) 7 (v 7) W := hA 7 (by decide)
  have p8 : (A33 w w.heap.size n c u x aa os) 8 (v 8) W := hA 8 (by decide)
  clear hA
  have e0 : v 0 = .pointer (some ⟨w.heap.size, 0, none⟩) := p0
  have e1 : v 1 = .int .i64 u := p1
  have e2 : v 2 = .pointer (some ⟨w.heap.size, 1, none⟩) := p2
  have e3 : v 3 = .int .i64 x := p3
  have e5 : v 5 = .pointer (some ⟨w.heap.size, 2, none⟩) := p5
  have e6 : v 6 = .slice aa n c := p6
  obtain ⟨g4, e4, _⟩ := p4
  obtain ⟨v7, e8, h7⟩ := p8
  obtain ⟨b7, c7, e7⟩ := RowP.form p7
  simp only [e0, e1, e2, e3, e4, e5, e6, e7, e8]
  clear e0 e1 e2 e3 e4 e5 e6 e7 e8 p0 p1 p2 p3 p5 p6
  obtain ⟨bz, cz, rfl⟩ := h7.form
  clear p7
  have r0 := hB.2.2.cell 0 _ rfl; have r1 := hB.2.2.cell 1 _ rfl; have r2 := hB.2.2.cell 2 _ rfl; have rf := hB.2.2.frozen
  have HR3 : Hid (HoldV (((W.setCell ⟨w.heap.size + 1, 0, none⟩ (.int .i64 u)).setCell ⟨w.heap.size + 1, 1, none⟩ (.int .i64 x)).setCell ⟨w.heap.size + 1, 2, none⟩ (.slice bz n cz)) (w.heap.size + 1) #[.int .i64 u, .int .i64 x, .slice bz n cz] 29) := hide (hv_set (hv_set (hv_set hB.2.2 0 _) 1 _) 2 _)
  have hg3 : W.grownBy (((W.setCell ⟨w.heap.size + 1, 0, none⟩ (.int .i64 u)).setCell ⟨w.heap.size + 1, 1, none⟩ (.int .i64 x)).setCell ⟨w.heap.size + 1, 2, none⟩ (.slice bz n cz)) (some (w.heap.size + 1)) := gr_set (gr_set (gr_set (grown_reflp _ _) 0 _) 1 _) 2 _
  have HF : Hid (RowP (((W.setCell ⟨w.heap.size + 1, 0, none⟩ (.int .i64 u)).setCell ⟨w.heap.size + 1, 1, none⟩ (.int .i64 x)).setCell ⟨w.heap.size + 1, 2, none⟩ (.slice bz n cz)) (w.heap.size + 2) (.slice bz n cz) n os ∧ Below w.heap.size w (((W.setCell ⟨w.heap.size + 1, 0, none⟩ (.int .i64 u)).setCell ⟨w.heap.size + 1, 1, none⟩ (.int .i64 x)).setCell ⟨w.heap.size + 1, 2, none⟩ (.slice bz n cz))) := hide ⟨by
    refine ⟨h7.1, ?_⟩
    rcases h7.2 with h0 | ⟨g2, cap, cur, hv, hB2, hg2, hrest⟩
    · exact .inl h0
    · exact .inr ⟨g2, cap, cur, hv, hB2, (hg3.block g2 (Array.getElem?_eq_some_iff.1 hg2).1 (fun e => by cases e; omega)).trans hg2, hrest⟩, below_gr hB.1 hg3 hB.1.size (Nat.le_succ _)⟩
  clear hB h7 hg3
  go_simp
  refine hKK _ _ ?_
  clear hKK KK r0 r1 r2 rf
  generalize (((W.setCell ⟨w.heap.size + 1, 0, none⟩ (.int .i64 u)).setCell ⟨w.heap.size + 1, 1, none⟩ (.int .i64 x)).setCell ⟨w.heap.size + 1, 2, none⟩ (.slice bz n cz)) = W1 at *
  have s0 := HR3.out.cell 0 _ rfl; have s1 := HR3.out.cell 1 _ rfl; have s2 := HR3.out.cell 2 _ rfl
  go_wp2_with fail
  exact bodyPost_ret (v := .agg #[.int .i64 u, .int .i64 x, .slice bz n cz]) (by simp [results, Try.results24, go_sem, s0, s1, s2]) rfl ⟨_, rfl, HF.out⟩
set_option maxRecDepth 100000
theorem take_snoc {os : List PieceM} {i : Nat} (h : i < os.length) : os.take (i + 1) = os.take i ++ [os[i]] := (List.take_append_getElem h).symm
theorem ownP_nil (w : World) (B : Nat) : OwnP w B (.slice none 0 0) [] := ⟨by simp, .inl ⟨rfl, rfl⟩⟩
theorem ownP_gr {W W' : World} {B g : Nat} {v : Value} {os : List PieceM} (h : OwnP W B v os) (hg : W.grownBy W' (some g)) (hgB : g < B) : OwnP W' B v os :=
  ownsAt.frame h (fun b hb => hg.block b (ownsAt.lt h b hb).2 (fun e => by cases e; have := (ownsAt.lt h _ hb).1; omega))
theorem ownP_mono {W : World} {B C : Nat} {v : Value} {os : List PieceM} (h : OwnP W B v os) (hC : C ≤ B) : OwnP W C v os := ownsAt.mono h hC
theorem row_own {W : World} {BB n : Nat} {v : Value} {os : List PieceM} (h : RowP W BB v n os) (hn : os.length = n) : OwnP W BB v os := by
  have := ownsAt.of_row h
  rw [← hn] at this
  exact this
theorem row_gr {W W' : World} {BB n g : Nat} {v : Value} {os : List PieceM} (h : RowP W BB v n os) (hg : W.grownBy W' (some g)) (hgB : g < BB) : RowP W' BB v n os := by
  refine ⟨h.1, ?_⟩
  rcases h.2 with h0 | ⟨r, cap, cur, hv, hB, hr, hrest⟩
  · exact .inl h0
  · exact .inr ⟨r, cap, cur, hv, hB, (hg.block r (Array.getElem?_eq_some_iff.1 hr).1 (fun e => by cases e; omega)).trans hr, hrest⟩
theorem flat_set {α : Type} (val : α → List Value) (K : Nat) (hv : ∀ a, (val a).length = K) : ∀ (os : List α) (i j : Nat) (u : Value) (o' : α) (hi : i < os.length), j < K → val o' = (val os[i]).set j u → (os.flatMap val).set (i * K + j) u = (os.set i o').flatMap val
  | [], i, j, u, o', hi, _, _ => by simp at hi
  | o :: os, 0, j, u, o', hi, hj, he => by
    rw [List.flatMap_cons, Nat.zero_mul, Nat.zero_add, List.set_append_left _ _ (by rw [hv]; exact hj)]
    rw [show (o :: os).set 0 o' = o' :: os from rfl, List.flatMap_cons, he]
    rfl
  | o :: os, i + 1, j, u, o', hi, hj, he => by
    have hi' : i < os.length := by simpa using hi
    have ih := flat_set val K hv os i j u o' hi' hj (by simpa using he)
    rw [List.flatMap_cons, List.set_append_right _ _ (by rw [hv, Nat.succ_mul]; omega), hv, show (i + 1) * K + j - K = i * K + j by rw [Nat.succ_mul]; omega, ih]
    rw [show (o :: os).set (i + 1) o' = o :: os.set i o' from rfl, List.flatMap_cons]
/-- A field of one piece of an own row is put anew. -/
theorem RowP.put {W : World} {BB g n cap : Nat} {os : List PieceM} (h : RowP W BB (.slice (some ⟨g, 0, none⟩) n cap) n os) {i j : Nat} (hi : i < os.length) (hj : j < 6) (u : Value) (o' : PieceM) (he : valPiece o' = (valPiece os[i]).set j u) : RowP (W.setCell ⟨g, i * 6 + j, none⟩ u) BB (.slice (some ⟨g, 0, none⟩) n cap) n (os.set i o') := by
  have hs := (World.ownsRow.stored h (i * 6 + j) u).1
  rw [flat_set valPiece 6 valPiece_len os i j u o' hi hj he] at hs
  exact hs
theorem RowP.at {W : World} {BB g n cap : Nat} {os : List PieceM} (h : RowP W BB (.slice (some ⟨g, 0, none⟩) n cap) n os) (hn : os.length = n) {i j : Nat} (hi : i < os.length) (hj : j < 6) : W.cell? ⟨g, i * 6 + j, none⟩ = (valPiece os[i])[j]? := by
  rw [World.ownsRow.cellAt h (i * 6 + j) (by omega)]
  exact vat valPiece 6 valPiece_len os i j hi hj
theorem RowP.some {W : World} {BB n : Nat} {v : Value} {os : List PieceM} (h : RowP W BB v n os) (hn : 0 < n) : ∃ g cap, v = .slice (some ⟨g, 0, none⟩) n cap ∧ BB ≤ g ∧ g < W.heap.size := by
  rcases h.2 with ⟨_, h1⟩ | ⟨g, cap, cur, hv, hB, hg, _⟩
  · omega
  · exact ⟨g, cap, hv, hB, (Array.getElem?_eq_some_iff.1 hg).1⟩
theorem row_frozen {W : World} {BB g n cap : Nat} {os : List PieceM} (h : RowP W BB (.slice (some ⟨g, 0, none⟩) n cap) n os) (j : Nat) : W.frozen? ⟨g, j, none⟩ = false := World.ownsRow.frozenAt h j
/-- A piece that is lost. -/
def lostP (o : PieceM) : PieceM := ⟨o.f0, o.f1, o.f2, o.f3, false, true⟩
/-- The first i pieces are changed. -/
def chgL (f : PieceM → PieceM) (os : List PieceM) (i : Nat) : List PieceM := (os.take i).map f ++ os.drop i
theorem chgL_len (f : PieceM → PieceM) (os : List PieceM) (i : Nat) (h : i ≤ os.length) : (chgL f os i).length = os.length := by unfold chgL; simp; omega
theorem chgL_zero (f : PieceM → PieceM) (os : List PieceM) : chgL f os 0 = os := by unfold chgL; simp
theorem chgL_all (f : PieceM → PieceM) (os : List PieceM) (i : Nat) (h : os.length ≤ i) : chgL f os i = os.map f := by unfold chgL; rw [List.take_of_length_le h, List.drop_eq_nil_of_le h]; simp
theorem chgL_get (f : PieceM → PieceM) (os : List PieceM) (i : Nat) (h : i < os.length) (h2 : i < (chgL f os i).length) : (chgL f os i)[i] = os[i] := by
  have e : (chgL f os i)[i]? = os[i]? := by
    unfold chgL
    have hl : ((os.take i).map f).length = i := by simp; omega
    rw [List.getElem?_append_right (by rw [hl]; exact Nat.le_refl _), hl, Nat.sub_self, List.getElem?_drop]
    rfl
  rw [List.getElem?_eq_getElem h2, List.getElem?_eq_getElem h] at e
  exact Option.some.inj e
theorem chgL_set (f : PieceM → PieceM) (os : List PieceM) (i : Nat) (h : i < os.length) : (chgL f os i).set i (f os[i]) = chgL f os (i + 1) := by
  unfold chgL
  have hl : ((os.take i).map f).length = i := by simp; omega
  rw [List.set_append_right _ _ (by rw [hl]; exact Nat.le_refl _), hl, Nat.sub_self, take_snoc h, List.map_append]
  simp
  rw [List.drop_eq_getElem_cons h]
  rfl
set_option maxHeartbeats 4000000 in
theorem markLost_walk (c : Nat) (q : PieceM) (pv nx : Option Nat) (w : World) (h : HoldV w c (lpV q pv nx) lpT) (h0 : 0 ≤ q.f0) (h1 : q.f0 < q.f1) (h2 : q.f1 ≤ 1099511627776) :
    Calls Try.prog 50 #[.pointer (some ⟨c, 0, none⟩)] w fun e w' => e = .returned (.int .i64 (q.f1 - q.f0)) ∧ HoldV w' c (lpV (lostP q) pv nx) lpT ∧ w.grownBy w' (some c) := by
  obtain ⟨x0, x1, x2, x3, x4, x5⟩ := q
  have HC := hide h
  have c4 := h.cell 4 _ rfl; have c5 := h.cell 5 _ rfl; have cf := h.frozen
  have HC2 : Hid (HoldV ((w.setCell ⟨c, 4, none⟩ (.bool false)).setCell ⟨c, 5, none⟩ (.bool true)) c (lpV ⟨x0, x1, x2, x3, false, true⟩ pv nx) lpT) := hide (hv_set (hv_set h 4 _) 5 _)
  have HG : Hid (w.grownBy ((w.setCell ⟨c, 4, none⟩ (.bool false)).setCell ⟨c, 5, none⟩ (.bool true)) (some c)) := hide (gr_set (gr_set (grown_reflp _ _) 4 _) 5 _)
  have CZ := hide (size_walk x0 x1 x2 x3 false true ((w.setCell ⟨c, 4, none⟩ (.bool false)).setCell ⟨c, 5, none⟩ (.bool true)) h0 h1 h2)
  clear h h0 h1 h2
  go_enter Try.func50, Try.ntmps50
  go_upto_region 2 with fail
  clear c4 c5 cf
  generalize (w.setCell ⟨c, 4, none⟩ (.bool false)).setCell ⟨c, 5, none⟩ (.bool true) = W at *
  have c0 := HC2.out.cell 0 _ rfl; have c1 := HC2.out.cell 1 _ rfl; have c2 := HC2.out.cell 2 _ rfl; have c3 := HC2.out.cell 3 _ rfl; have c4 := HC2.out.cell 4 _ rfl; have c5 := HC2.out.cell 5 _ rfl
  go_wp2_with fail
  refine CZ.out.mono ?_
  rintro e w2 ⟨rfl, hb2⟩
  go_wp2_with fail
  go_ret
  exact ⟨rfl, HC2.out.next hb2, ⟨hb2.os.trans HG.out.os, hb2.tape.trans HG.out.tape, hb2.output.trans HG.out.output, Nat.le_trans HG.out.size hb2.size, fun k hk hne => (hb2.block k (Nat.lt_of_lt_of_le hk HG.out.size)).trans (HG.out.block k hk hne)⟩⟩
/-- The linked pieces, the first ones changed. -/
def chgN (f : PieceM → PieceM) (ns : List (Nat × PieceM)) : List (Nat × PieceM) := ns.map (fun p => (p.1, f p.2))
theorem chgN_bks (f : PieceM → PieceM) (ns : List (Nat × PieceM)) : bks (chgN f ns) = bks ns := by simp [bks, chgN]
theorem chgN_snd (f : PieceM → PieceM) (ns : List (Nat × PieceM)) : (chgN f ns).map Prod.snd = (ns.map Prod.snd).map f := by simp [chgN]
set_option maxRecDepth 100000
theorem row_mono {W : World} {BB C n : Nat} {v : Value} {os : List PieceM} (h : RowP W BB v n os) (hC : C ≤ BB) : RowP W C v n os := by
  refine ⟨h.1, ?_⟩
  rcases h.2 with h0 | ⟨g, cap, cur, hv, hB, hrest⟩
  · exact .inl h0
  · exact .inr ⟨g, cap, cur, hv, by omega, hrest⟩
theorem pc_cells {W : World} {b : Nat} {q : PieceM} (hb : HoldV W b #[.int .i64 q.f0, .int .i64 q.f1, .int .i64 q.f2, .int .i64 q.f3, .bool q.f4, .bool q.f5] 48) : ∀ j u, (valPiece q)[j]? = some u → W.cell? ((⟨b, 0, none⟩ : Addr).add j) = some u := by
  intro j u hj
  have hj6 : j < 6 := (List.getElem?_eq_some_iff.1 hj).1
  rcases (show j = 0 ∨ j = 1 ∨ j = 2 ∨ j = 3 ∨ j = 4 ∨ j = 5 by omega) with rfl | rfl | rfl | rfl | rfl | rfl <;> (injection hj with hj; subst hj)
  · exact hb.cell 0 _ rfl
  · exact hb.cell 1 _ rfl
  · exact hb.cell 2 _ rfl
  · exact hb.cell 3 _ rfl
  · exact hb.cell 4 _ rfl
  · exact hb.cell 5 _ rfl
theorem val_one1 (q : PieceM) : ∀ u ∈ valPiece q, u.oneCell' = true := by intro u hu; simp [valPiece] at hu; rcases hu with rfl | rfl | rfl | rfl | rfl | rfl <;> rfl

theorem l14Min_walk (a b : Int) (w : World) : Calls Try.prog 35 #[.int .i64 a, .int .i64 b] w fun e w' => e = .returned (.int .i64 (min a b)) ∧ w' = w := by
  by_cases h : a < b
  · have e : min a b = a := by omega
    rw [e]
    go_enter Try.func35, Try.ntmps35
    go_wp2
    go_ret
    exact ⟨rfl, rfl⟩
  · have e : min a b = b := by omega
    rw [e]
    go_enter Try.func35, Try.ntmps35
    go_wp2
    go_ret
    exact ⟨rfl, rfl⟩

theorem three_boxes (w : World) (o1 o2 o3 : Array Value) (t1 t2 t3 : Nat) : Below w.heap.size w (((w.alloc (.cells o1 t1)).alloc (.cells o2 t2)).alloc (.cells o3 t3)) ∧ HoldV (((w.alloc (.cells o1 t1)).alloc (.cells o2 t2)).alloc (.cells o3 t3)) w.heap.size o1 t1 ∧ HoldV (((w.alloc (.cells o1 t1)).alloc (.cells o2 t2)).alloc (.cells o3 t3)) (w.heap.size + 1) o2 t2 ∧ HoldV (((w.alloc (.cells o1 t1)).alloc (.cells o2 t2)).alloc (.cells o3 t3)) (w.heap.size + 2) o3 t3 := by
  obtain ⟨h1, h2, h3⟩ := two_allocs w (.cells o1 t1) (.cells o2 t2)
  have hs : ((w.alloc (.cells o1 t1)).alloc (.cells o2 t2)).heap.size = w.heap.size + 2 := by rw [World.size_alloc, World.size_alloc]
  have hb : Below ((w.alloc (.cells o1 t1)).alloc (.cells o2 t2)).heap.size ((w.alloc (.cells o1 t1)).alloc (.cells o2 t2)) (((w.alloc (.cells o1 t1)).alloc (.cells o2 t2)).alloc (.cells o3 t3)) := (Below.refl _ _).alloc (Nat.le_refl _) _
  refine ⟨h1.trans (hb.mono (by omega)), (show HoldV _ _ _ _ from h2).next hb, (show HoldV _ _ _ _ from h3).next hb, ?_⟩
  have := hv_new ((w.alloc (.cells o1 t1)).alloc (.cells o2 t2)) o3 t3
  rw [hs] at this
  exact this
set_option maxRecDepth 100000


theorem Try.infoStretch : (Try.prog.info? 43).map (fun i => (i.zero, i.size, i.bytes)) = some (some (.agg #[.int .i64 0, .int .i64 0]), 2, 16) := by kernel_rfl
/-- A row of stretches as data. -/
abbrev stD (n : Nat) (zs : List Int) : D := .s 43 2 n (nums zs)
theorem stD_read {w : World} {B n m c : Nat} {zs : List Int} {a : Option Addr} {bs : List Nat} (h : Holds w B (stD n zs) (.slice a m c) bs) : ArrI w a zs ∧ zs.length = n * 2 ∧ m = n ∧ n ≤ c := by
  have ho := (holds_flat.1 h).1
  obtain ⟨a', c', e, ha, hc⟩ := OwnI.arr ho
  cases e
  exact ⟨ha, ho.len, rfl, hc⟩
theorem ownSt_holds {w : World} {B r : Nat} {v : Value} {zs : List Int} (h : OwnI w B 43 2 v r zs) : ∃ (a : Option Addr) (c : Nat), v = .slice a r c ∧ Holds w B (stD r zs) (.slice a r c) v.ownBlock.toList := by
  obtain ⟨a, c, rfl, _⟩ := OwnI.arr h
  exact ⟨a, c, rfl, holds_flat.2 ⟨h, rfl⟩⟩
set_option maxRecDepth 100000
/-- One of the stretches counts for a piece: it lies within what is out, and the piece within it. -/
def wiB (ack x p0 p1 : Int) : List Int → Bool
  | s0 :: s1 :: r => decide (ack ≤ s0 ∧ s0 < s1 ∧ s1 ≤ x ∧ s0 ≤ p0 ∧ p1 ≤ s1) || wiB ack x p0 p1 r
  | _ => false
theorem drop_two {zs : List Int} {i : Nat} (h : i * 2 + 2 ≤ zs.length) : zs.drop (i * 2) = zs.getD (i * 2) 0 :: zs.getD (i * 2 + 1) 0 :: zs.drop ((i + 1) * 2) := by
  rw [List.drop_eq_getElem_cons (by omega : i * 2 < zs.length), List.drop_eq_getElem_cons (by omega : i * 2 + 1 < zs.length)]
  congr 1
  · rw [List.getD_eq_getElem?_getD, List.getElem?_eq_getElem (by omega)]; rfl
  · congr 1
    · rw [List.getD_eq_getElem?_getD, List.getElem?_eq_getElem (by omega)]; rfl
    · congr 1; omega
theorem l14Max_walk (a b : Int) (w : World) : Calls Try.prog 64 #[.int .i64 a, .int .i64 b] w fun e w' => e = .returned (.int .i64 (max a b)) ∧ w' = w := by
  by_cases h : a > b
  · have e : max a b = a := by omega
    rw [e]
    go_enter Try.func64, Try.ntmps64
    go_wp2
    go_ret
    exact ⟨rfl, rfl⟩
  · have e : max a b = b := by omega
    rw [e]
    go_enter Try.func64, Try.ntmps64
    go_wp2
    go_ret
    exact ⟨rfl, rfl⟩
set_option maxHeartbeats 8000000 in
theorem l15Within_walk (p0 p1 p2 p3 : Int) (p4 p5 : Bool) (ack x : Int) (av : Option Addr) (nv cv : Nat) (a : Option Addr) (n c : Nat) (zs : List Int) (w : World) (hn : zs.length = n * 2) (ha : ArrI w a zs) (hm : n ≤ 1048576) :
    Calls Try.prog 65 #[.agg #[.int .i64 p0, .int .i64 p1, .int .i64 p2, .int .i64 p3, .bool p4, .bool p5], .agg #[.int .i64 ack, .int .i64 x, .slice av nv cv], .slice a n c] w fun e w' => e = .returned (.bool (wiB ack x p0 p1 zs)) ∧ Below w.heap.size w w' := by
  obtain ⟨hb2, hP, hB⟩ := two_boxes w #[.int .i64 p0, .int .i64 p1, .int .i64 p2, .int .i64 p3, .bool p4, .bool p5] #[.int .i64 ack, .int .i64 x, .slice av nv cv] 48 29
  have HB2 := hide hb2; have HP := hide hP; have HQ := hide hB
  have HN := hide hn; have HA := hide ha
  clear hn ha hb2 hP hB
  go_enter Try.func65, Try.ntmps65
  go_wp2_with fail
  generalize (w.alloc (.cells #[.int .i64 p0, .int .i64 p1, .int .i64 p2, .int .i64 p3, .bool p4, .bool p5] 48)).alloc (.cells #[.int .i64 ack, .int .i64 x, .slice av nv cv] 29) = V0 at *
  go_loopw [7] (fun t w2 => ∃ i : Nat, i ≤ n ∧ t = .int .i64 i ∧ Hid (wiB ack x p0 p1 zs = wiB ack x p0 p1 (zs.drop (i * 2))) ∧ Hid (HoldV w2 w.heap.size #[.int .i64 p0, .int .i64 p1, .int .i64 p2, .int .i64 p3, .bool p4, .bool p5] 48) ∧ Hid (HoldV w2 (w.heap.size + 1) #[.int .i64 ack, .int .i64 x, .slice av nv cv] 29) ∧ Hid (Below w.heap.size w w2)) (fun t _ => n - (intOf t).toNat)
  case atStart => exact ⟨0, Nat.zero_le _, rfl, hide (by rw [Nat.zero_mul]; rfl), HP, HQ, HB2⟩
  case round =>
    rename World => wr
    obtain ⟨i, hi, rfl, HC, HP, HQ, HB⟩ := hrel
    by_cases hlt : i < n
    · have hlt2 : i * 2 + 2 ≤ n * 2 := by omega
      have HA2 : Hid (ArrI wr a zs) := hide (HA.out.below HB.out (Nat.le_refl _))
      obtain ⟨b, off, rfl, hb1, g0⟩ := HA2.out (i * 2) (by rw [HN.out]; omega)
      have g1 : wr.cell? ⟨b, off + (i * 2 + 1), none⟩ = some (.int .i64 (zs.getD (i * 2 + 1) 0)) := by
        obtain ⟨b', o', e, _, c⟩ := HA2.out (i * 2 + 1) (by rw [HN.out]; omega)
        cases e
        exact c
      rw [← Nat.add_assoc] at g1
      have HD : Hid (wiB ack x p0 p1 zs = wiB ack x p0 p1 (zs.getD (i * 2) 0 :: zs.getD (i * 2 + 1) 0 :: zs.drop ((i + 1) * 2))) := hide (by rw [HC.out, drop_two (by rw [HN.out]; exact hlt2)])
      clear HC HA2
      generalize zs.getD (i * 2) 0 = s0 at *
      generalize zs.getD (i * 2 + 1) 0 = s1 at *
      have HNO : Hid (¬ (ack ≤ s0 ∧ s0 < s1 ∧ s1 ≤ x ∧ s0 ≤ p0 ∧ p1 ≤ s1) → wiB ack x p0 p1 zs = wiB ack x p0 p1 (zs.drop ((i + 1) * 2))) := hide (fun h => by rw [HD.out]; unfold wiB; rw [decide_eq_false h, Bool.false_or]; conv => lhs; unfold wiB)
      have HYES : Hid ((ack ≤ s0 ∧ s0 < s1 ∧ s1 ≤ x ∧ s0 ≤ p0 ∧ p1 ≤ s1) → true = wiB ack x p0 p1 zs) := hide (fun h => by rw [HD.out]; unfold wiB; rw [decide_eq_true h, Bool.true_or])
      have hal := (Below.refl wr.heap.size wr).alloc (Nat.le_refl _) (.cells #[.int .i64 s0, .int .i64 s1] 43)
      have HP2 := hide (HP.out.next hal); have HQ2 := hide (HQ.out.next hal); have HB2' := hide (HB.out.trans (hal.mono HB.out.size))
      have HS := hide (hv_new wr #[.int .i64 s0, .int .i64 s1] 43)
      have k0 := HS.out.cell 0 _ rfl; have k1 := HS.out.cell 1 _ rfl
      have q0 := HP2.out.cell 0 _ rfl; have q1 := HP2.out.cell 1 _ rfl
      have b0 := HQ2.out.cell 0 _ rfl; have b1 := HQ2.out.cell 1 _ rfl
      clear hal HD HP HQ HB
      by_cases h1 : ack ≤ s0
      · by_cases h2 : s0 < s1
        · by_cases h3 : s1 ≤ x
          · by_cases h4 : s0 ≤ p0
            · by_cases h5 : p1 ≤ s1
              · have HE := hide (HYES.out ⟨h1, h2, h3, h4, h5⟩)
                clear HNO HYES
                go_wp2_with fail
                go_ret
                exact ⟨ret_bool HE.out, HB2'.out⟩
              · have HE := hide (HNO.out (fun h => h5 h.2.2.2.2))
                clear HNO HYES
                go_wp2_with fail
                exact ⟨⟨i + 1, by omega, by go_num, HE, HP2, HQ2, HB2'⟩, by simp [intOf]; omega⟩
            · have HE := hide (HNO.out (fun h => h4 h.2.2.2.1))
              clear HNO HYES
              go_wp2_with fail
              exact ⟨⟨i + 1, by omega, by go_num, HE, HP2, HQ2, HB2'⟩, by simp [intOf]; omega⟩
          · have HE := hide (HNO.out (fun h => h3 h.2.2.1))
            clear HNO HYES
            go_wp2_with fail
            exact ⟨⟨i + 1, by omega, by go_num, HE, HP2, HQ2, HB2'⟩, by simp [intOf]; omega⟩
        · have HE := hide (HNO.out (fun h => h2 h.2.1))
          clear HNO HYES
          go_wp2_with fail
          exact ⟨⟨i + 1, by omega, by go_num, HE, HP2, HQ2, HB2'⟩, by simp [intOf]; omega⟩
      · have HE := hide (HNO.out (fun h => h1 h.1))
        clear HNO HYES
        go_wp2_with fail
        exact ⟨⟨i + 1, by omega, by go_num, HE, HP2, HQ2, HB2'⟩, by simp [intOf]; omega⟩
    · have hin : i = n := by omega
      have HE : Hid (false = wiB ack x p0 p1 zs) := hide (by rw [HC.out, hin, List.drop_eq_nil_of_le (by rw [HN.out]; exact Nat.le_refl _)]; rfl)
      clear HC
      go_wp2_with fail
      go_ret
      exact ⟨ret_bool HE.out, HB.out⟩
set_option maxRecDepth 100000

/-- What is wanted of BoardAck. -/
def BoardAckP (f : Nat) (Pre : World → Prop) (x0_0 : Int) (x0_1 : Int) (z0_0 : List PieceM) (m1 : Int) (z2_0 : List Int) (y0_0 : Int) (y0_1 : Int) (L0_0 : List PieceM) (y1_0 : Int) (y1_1 : Int) (y1_2 : Int) (C2 : Int) : Prop :=
  ∀ (a0_0 : Option Addr) (n0_0 c0_0 : Nat) (a2_0 : Option Addr) (n2_0 c2_0 : Nat) (W : World), z0_0.length = n0_0 → ArrP W a0_0 (z0_0.flatMap valPiece) → n0_0 ≤ c0_0 → n0_0 ≤ 1048576 → z2_0.length = n2_0 * 2 → ArrI W a2_0 z2_0 → n2_0 ≤ c2_0 → n2_0 ≤ 1048576 → Pre W → Calls Try.prog f #[.agg #[.int .i64 x0_0, .int .i64 x0_1, .slice a0_0 n0_0 c0_0], .int .i64 m1, .slice a2_0 n2_0 c2_0] W fun e w' => ∃ v0_0 : Value, e = .returned (.tuple #[.agg #[.int .i64 y0_0, .int .i64 y0_1, v0_0], .agg #[.int .i64 y1_0, .int .i64 y1_1, .int .i64 y1_2], .int .i64 C2]) ∧ OwnP w' W.heap.size v0_0 L0_0 ∧ Below W.heap.size W w'
end Go.Proofs.Ytlkbmdkidpfioaa
