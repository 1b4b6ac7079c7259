/-
Contracts of functions of this seat.
-/
import Derived.Test.YtcnfnimgpiaamaaDoorRows
import Derived.WalkKit
import Derived.ProofKit
import Derived.OpenShut
import Derived.Test.YtcnfnimgpiaamaaDoorSgk
import Derived.Deep.RegionHeld3
import Derived.Deep.DeepCutAuto
namespace Go.Proofs.YtcnfnimgpiaamaaDoor
open Go.ChangeShapes Go.WideShapes Go.ChangeAt Go.RowKit
set_option linter.unusedVariables false
set_option maxRecDepth 100000
theorem OwnB.nx {w w' : World} {B : Nat} {v : Value} {zs : List Int} (h : OwnB w B v zs) (hb : Below w.heap.size w w') : OwnB w' B v zs := by
  refine ⟨⟨h.1.1, ?_⟩, h.2⟩
  rcases h.1.2 with hn | ⟨r, cap, cur, hv, hr, hc, rest⟩
  · exact .inl hn
  · exact .inr ⟨r, cap, cur, hv, hr, (hb.block r (Array.getElem?_eq_some_iff.1 hc).1).trans hc, rest⟩
theorem OwnB.low {w : World} {B C : Nat} {v : Value} {zs : List Int} (h : OwnB w B v zs) (hC : C ≤ B) : OwnB w C v zs := by
  refine ⟨⟨h.1.1, ?_⟩, h.2⟩
  rcases h.1.2 with hn | ⟨r, cap, cur, hv, hr, rest⟩
  · exact .inl hn
  · exact .inr ⟨r, cap, cur, hv, by omega, rest⟩

theorem litb_own (w : World) (zs : List Int) (hz : ∀ z ∈ zs, 0 ≤ z ∧ z ≤ 255) (hm : zs.length ≤ 1048576) : OwnB (w.alloc (.cells (bval zs).toArray 5)) w.heap.size (.slice (some ⟨w.heap.size, 0, none⟩) zs.length zs.length) zs :=
  ⟨World.ownsRow_lit (base := w.heap.size) (e := 5) (size := 1) w (bval zs).toArray zs.length (Nat.le_refl _) (by unfold maxLen; omega) (by simp [bval]), hz⟩

/-- The values v k laid into the operations' places. -/
def putAll (v : Nat → Value) : Nat → List Oper → Act → Act
  | _, [], a => a
  | k, o :: r, a => putAll v (k + 1) r (a.put o.dst (v k))
def dstsApart : List Oper → Bool
  | [] => true
  | o :: r => (match o.dst with | none => true | some d => r.all (fun o' => o'.dst != some d)) && dstsApart r
def inTurn : Nat → List Oper → Bool
  | _, [] => true
  | k, o :: r => o.after.all (fun e => !Region.binds .any e || decide (e.on < k)) && inTurn (k + 1) r
/-- Whom an operation waits for. -/
def predsOf (o : Oper) : List Nat := (o.after.toList.filter (Region.binds .any)).map (·.on)
def AllOf (A : Nat → Value → World → Prop) (v : Nat → Value) (w : World) : List Nat → Prop
  | [] => True
  | j :: r => A j (v j) w ∧ AllOf A v w r
theorem allOf_mem {A : Nat → Value → World → Prop} {v : Nat → Value} {w : World} : ∀ {l : List Nat}, (∀ j ∈ l, A j (v j) w) → AllOf A v w l
  | [], _ => trivial
  | _ :: _, h => ⟨h _ (List.mem_cons_self ..), allOf_mem (fun j hj => h j (List.mem_cons_of_mem _ hj))⟩
theorem put_same (a : Act) (d : Option Tmp) : a.put d (match d with | some t => a.tmps.getD t undef | none => undef) = a := by
  cases d with
  | none => rfl
  | some t =>
    simp only [Act.put]
    congr 1
    by_cases h : t < a.tmps.size
    · simp [Array.setIfInBounds, h]
    · simp [Array.setIfInBounds, h]
theorem put_put (a : Act) (d : Option Tmp) (u v : Value) : (a.put d u).put d v = a.put d v := by
  cases d with
  | none => rfl
  | some t => simp [Act.put]
theorem putAll_self (a : Act) : ∀ (l : List Oper) (k : Nat) (v : Nat → Value), (∀ (i : Nat) (o : Oper), l[i]? = some o → v (k + i) = (match o.dst with | some t => a.tmps.getD t undef | none => undef)) → putAll v k l a = a
  | [], _, _, _ => rfl
  | o :: r, k, v, h => by
    have h0 := h 0 o rfl
    rw [Nat.add_zero] at h0
    rw [putAll, h0, put_same]
    exact putAll_self a r (k + 1) v (fun i o' ho => by have := h (i + 1) o' (by simpa using ho); rwa [show k + (i + 1) = k + 1 + i by omega] at this)
theorem put_out (o : Oper) (u : Value) (v : Nat → Value) : ∀ (l : List Oper) (k : Nat) (a : Act), (match o.dst with | none => true | some d => l.all (fun o' => o'.dst != some d)) = true → (putAll v k l a).put o.dst u = putAll v k l (a.put o.dst u)
  | [], _, _, _ => rfl
  | o' :: r, k, a, h => by
    cases hd : o.dst with
    | none => rfl
    | some d =>
      rw [hd] at h
      simp only [List.all_cons, Bool.and_eq_true] at h
      rw [putAll, putAll, ← hd, put_out o u v r (k + 1) _ (by rw [hd]; exact h.2)]
      congr 1
      refine Act.put_comm a _ _ ?_
      intro d' h1 h2
      rw [hd] at h2; cases h2
      have := h.1
      rw [h1] at this
      simp at this
theorem putAll_put : ∀ (l : List Oper) (k i : Nat) (o : Oper) (u : Value) (v : Nat → Value) (a : Act), dstsApart l = true → l[i]? = some o →
    (putAll v k l a).put o.dst u = putAll (fun j => if j = k + i then u else v j) k l a
  | [], _, _, _, _, _, _, _, h => by simp at h
  | o' :: r, k, 0, o, u, v, a, hd, h => by
    simp only [List.getElem?_cons_zero, Option.some.injEq] at h
    subst h
    simp only [dstsApart, Bool.and_eq_true] at hd
    rw [putAll, put_out o' u v r (k + 1) _ hd.1, put_put, putAll]
    simp only [Nat.add_zero, if_true]
    exact putAll_congr r (k + 1) _ _ _ (fun i _ => by simp; omega)
  | o' :: r, k, i + 1, o, u, v, a, hd, h => by
    simp only [dstsApart, Bool.and_eq_true] at hd
    rw [putAll, putAll_put r (k + 1) i o u v _ hd.2 (by simpa using h), putAll]
    rw [if_neg (by omega)]
    exact putAll_congr r (k + 1) _ _ _ (fun i' _ => by rw [show k + 1 + i = k + (i + 1) by omega])
where
  putAll_congr : ∀ (l : List Oper) (k : Nat) (v v' : Nat → Value) (a : Act), (∀ i, i < l.length → v (k + i) = v' (k + i)) → putAll v k l a = putAll v' k l a
  | [], _, _, _, _, _ => rfl
  | o :: r, k, v, v', a, h => by
    have h0 := h 0 (by simp)
    rw [Nat.add_zero] at h0
    rw [putAll, putAll, h0]
    exact putAll_congr r (k + 1) v v' _ (fun i hi => by have := h (i + 1) (by simpa using hi); rwa [show k + (i + 1) = k + 1 + i by omega] at this)
theorem inTurn_get : ∀ (l : List Oper) (k i : Nat) (o : Oper), inTurn k l = true → l[i]? = some o → ∀ e ∈ o.after, Region.binds .any e = true → e.on < k + i
  | [], _, _, _, _, h => by simp at h
  | o' :: r, k, 0, o, hd, h => by
    simp only [List.getElem?_cons_zero, Option.some.injEq] at h
    subst h
    simp only [inTurn, Bool.and_eq_true, Array.all_eq_true'] at hd
    intro e he hb
    have := hd.1 e he
    simpa [hb] using this
  | o' :: r, k, i + 1, o, hd, h => by
    simp only [inTurn, Bool.and_eq_true] at hd
    intro e he hb
    have := inTurn_get r (k + 1) i o hd.2 (by simpa using h) e he hb
    omega
section
variable {P : Program} {ops : Array Oper} {Q : Exit → Act → World → Prop} (R : World → World → Prop) (B : World → Prop) (A : Nat → Value → World → Prop)
/-- What is asked of one operation: from what those have left that it waits for, it leaves its own. -/
def EachOp (P : Program) (ops : Array Oper) (Q : Exit → Act → World → Prop) (R : World → World → Prop) (B : World → Prop) (A : Nat → Value → World → Prop) (a : Act) (i : Nat) (o : Oper) : Prop :=
  ∀ (v : Nat → Value) (w : World), B w → AllOf A v w (predsOf o) → ∀ K : Act → World → Prop, (∀ u w', R w w' → B w' → A i u w' → K ((putAll v 0 ops.toList a).put o.dst u) w') →
    if Region.wanted o (yielded ops (putAll v 0 ops.toList a).tmps) = true then Oper.wp P o (putAll v 0 ops.toList a) w K Q else K ((putAll v 0 ops.toList a).put o.dst undef) w
def EachOps (P : Program) (ops : Array Oper) (Q : Exit → Act → World → Prop) (R : World → World → Prop) (B : World → Prop) (A : Nat → Value → World → Prop) (a : Act) : Nat → List Oper → Prop
  | _, [] => True
  | i, o :: r => EachOp P ops Q R B A a i o ∧ EachOps P ops Q R B A a (i + 1) r
theorem eachOps_get {a : Act} : ∀ (l : List Oper) (k i : Nat) (o : Oper), EachOps P ops Q R B A a k l → l[i]? = some o → EachOp P ops Q R B A a (k + i) o
  | [], _, _, _, _, h => by simp at h
  | o' :: r, k, 0, o, hd, h => by
    simp only [List.getElem?_cons_zero, Option.some.injEq] at h
    subst h
    exact hd.1
  | o' :: r, k, i + 1, o, hd, h => by
    have := eachOps_get r (k + 1) i o hd.2 (by simpa using h)
    rwa [show k + 1 + i = k + (i + 1) by omega] at this
theorem each_any {a : Act} (hd : dstsApart ops.toList = true) (ht : inTurn 0 ops.toList = true) (hst : ∀ k v w w', R w w' → A k v w → A k v w')
    (he : EachOps P ops Q R B A a 0 ops.toList) (hf : ∀ v w, B w → (∀ i, i < ops.size → A i (v i) w) → Q .normal (putAll v 0 ops.toList a) w) :
    ∀ (fuel : Nat) (listed : Array Bool) (v : Nat → Value) (w : World), listed.size = ops.size → listed.toList.countP (fun b => !b) ≤ fuel → B w → (∀ i, listed.getD i false = true → A i (v i) w) →
      wpAny P .any ops Q fuel listed (putAll v 0 ops.toList a) w := by
  have done : ∀ (listed : Array Bool) (v : Nat → Value) (w : World), listed.size = ops.size → B w → (∀ i, listed.getD i false = true → A i (v i) w) → Region.ready .any ops listed = [] → Q .normal (putAll v 0 ops.toList a) w := by
    intro listed v w hs hB hA hr
    have all : ∀ n i, i < n → i < ops.size → listed.getD i false = true := by
      intro n
      induction n with
      | zero => intro i hi; omega
      | succ n ih =>
        intro i hi hi2
        by_cases hl : listed.getD i false = true
        · exact hl
        · exfalso
          have hm : i ∈ Region.ready .any ops listed := by
            refine mem_ready.2 ⟨?_, ops[i], by simp [hi2], ?_⟩
            · have h1 : i < listed.size := by omega
              simp [h1] at hl ⊢
              exact hl
            · intro e he' hb
              have h2 := inTurn_get ops.toList 0 i ops[i] ht (by simp [hi2]) e he' hb
              exact ih e.on (by omega) (by omega)
          rw [hr] at hm
          cases hm
    exact hf v w hB (fun i hi => hA i (all (i + 1) i (Nat.lt_succ_self _) hi))
  intro fuel
  induction fuel with
  | zero =>
    intro listed v w hs hc hB hA
    have hr : Region.ready .any ops listed = [] := by
      cases h : Region.ready .any ops listed with
      | nil => rfl
      | cons i r =>
        exfalso
        have hm : i ∈ Region.ready .any ops listed := by rw [h]; exact List.mem_cons_self ..
        have h1 := (mem_ready.1 hm).1
        have h2 : i < listed.size := by
          rcases Nat.lt_or_ge i listed.size with h' | h'
          · exact h'
          · simp [Array.getElem?_eq_none h'] at h1
        have h3 : listed.toList.countP (fun b => !b) = 0 := by omega
        rw [List.countP_eq_zero] at h3
        have h4 := h3 listed[i] (by simp)
        simp [h2] at h1
        simp [h1] at h4
    exact ⟨hr, done listed v w hs hB hA hr⟩
  | succ fuel ih =>
    intro listed v w hs hc hB hA
    refine ⟨fun hr => done listed v w hs hB hA hr, fun i hi => ?_⟩
    obtain ⟨h1, o, ho, hall⟩ := mem_ready.1 hi
    have h2 : i < listed.size := by
      rcases Nat.lt_or_ge i listed.size with h' | h'
      · exact h'
      · simp [Array.getElem?_eq_none h'] at h1
    have ho' : ops.toList[i]? = some o := by simpa using ho
    have hE := eachOps_get R B A ops.toList 0 i o he ho'
    rw [Nat.zero_add] at hE
    refine wpOp_step ho (fun K' hK => ?_)
    refine hE v w hB (allOf_mem ?_) K' ?_
    · intro j hj
      simp only [predsOf, List.mem_map, List.mem_filter] at hj
      obtain ⟨e, ⟨he1, he2⟩, rfl⟩ := hj
      exact hA _ (hall e (by simpa using he1) he2)
    · intro u w' hR hB' hA'
      apply hK
      rw [putAll_put ops.toList 0 i o u v a hd ho', Nat.zero_add]
      refine ih _ _ w' (by simpa using hs) ?_ hB' ?_
      · have h5 : listed[i] = false := by simpa [h2] using h1
        have : (listed.setIfInBounds i true).toList = listed.toList.set i true := by simp
        rw [this, List.countP_set (by simpa using h2)]
        have h6 : 0 < listed.toList.countP (fun b => !b) := List.countP_pos_iff.2 ⟨false, by rw [← h5]; simp, rfl⟩
        simp only [Array.getElem_toList, h5, Bool.not_false, Bool.not_true, if_true]
        simp only [Bool.false_eq_true, if_false]
        omega
      · intro k hk
        by_cases hki : k = i
        · subst hki; simpa using hA'
        · simp only [hki, if_false]
          refine hst _ _ _ _ hR (hA k ?_)
          have : (listed.setIfInBounds i true).getD k false = listed.getD k false := by
            simp [Ne.symm hki]
          rwa [this] at hk
/-- A region that draws its order, one obligation an operation: R is what an operation may do to the world, B what holds throughout, A i what number i leaves (kept by R). -/
theorem wp_region_each {id : Nat} {a : Act} {w : World} (hm : P.follows .mixedOrders = true) (hd : dstsApart ops.toList = true) (ht : inTurn 0 ops.toList = true) (hst : ∀ k v w w', R w w' → A k v w → A k v w') (hB : B w.drew)
    (he : EachOps P ops Q R B A a 0 ops.toList) (hf : ∀ v w, B w → (∀ i, i < ops.size → A i (v i) w) → Q .normal (putAll v 0 ops.toList a) w) : (Code.region id ops true).wp P Q a w := by
  have key := each_any R B A hd ht hst he hf ops.size (Array.replicate ops.size false) (fun i => match ops.toList[i]? with | some o => (match o.dst with | some t => a.tmps.getD t undef | none => undef) | none => undef) w.drew (by simp) (by rw [Array.toList_replicate]; exact Nat.le_trans List.countP_le_length (by simp)) hB (by intro i hi; by_cases h : i < ops.size <;> simp [h] at hi)
  rw [putAll_self a ops.toList 0 _ (by intro i o ho; simp only [Nat.zero_add, ho])] at key
  exact wp_region_held (S := fun _ => True) hm (held_of_any key)
where
  held_of_any : ∀ {fuel : Nat} {listed : Array Bool} {a : Act} {w : World}, wpAny P .any ops Q fuel listed a w → wpAnyH P .any ops Q (fun _ => True) fuel listed a w
  | 0, _, _, _, h => h
  | fuel + 1, _, _, _, h => ⟨h.1, fun i hi => wpOp_mono (fun a' w' h' => ⟨trivial, held_of_any h'⟩) (h.2 i hi)⟩
/-- Every operation but the last one has one that waits for it. -/
def covered (ops : Array Oper) : Bool := (List.range (ops.size - 1)).all (fun j => ops.toList.any (fun o => (predsOf o).contains j))
theorem mem_predsOf {o : Oper} {j : Nat} : j ∈ predsOf o ↔ ∃ e ∈ o.after, Region.binds .any e = true ∧ e.on = j := by
  simp only [predsOf, List.mem_map, List.mem_filter]
  constructor
  · rintro ⟨e, ⟨h1, h2⟩, h3⟩; exact ⟨e, by simpa using h1, h2, h3⟩
  · rintro ⟨e, h1, h2, h3⟩; exact ⟨e, ⟨by simpa using h1, h2⟩, h3⟩
theorem last_any {a : Act} (l : List Oper) (ol : Oper) (hops : ops.toList = l ++ [ol]) (hd : dstsApart ops.toList = true) (ht : inTurn 0 ops.toList = true) (hcv : covered ops = true) (hst : ∀ k v w w', R w w' → A k v w → A k v w')
    (he : EachOps P ops Q R B A a 0 l) (hl : ∀ v w, B w → (∀ i, i < l.length → A i (v i) w) → ∀ K : Act → World → Prop, (∀ a' w', Q .normal a' w' → K a' w') →
      if Region.wanted ol (yielded ops (putAll v 0 ops.toList a).tmps) = true then Oper.wp P ol (putAll v 0 ops.toList a) w K Q else K ((putAll v 0 ops.toList a).put ol.dst undef) w) :
    ∀ (fuel : Nat) (listed : Array Bool) (v : Nat → Value) (w : World), listed.size = ops.size → listed.toList.countP (fun b => !b) ≤ fuel → listed.getD l.length true = false →
      (∀ (k : Nat) (o : Oper), ops[k]? = some o → listed.getD k false = true → ∀ e ∈ o.after, Region.binds .any e = true → listed.getD e.on false = true) → B w → (∀ i, listed.getD i false = true → A i (v i) w) →
      wpAny P .any ops Q fuel listed (putAll v 0 ops.toList a) w := by
  have hsz : ops.size = l.length + 1 := by have := congrArg List.length hops; simpa using this
  have pos : ∀ (listed : Array Bool), listed.size = ops.size → listed.getD l.length true = false → ∃ i, i ∈ Region.ready .any ops listed := by
    intro listed hs h0
    -- the least that has not come up
    have go : ∀ n i, i ≤ n → i < ops.size → listed.getD i true = false → ∃ i, i ∈ Region.ready .any ops listed := by
      intro n
      induction n with
      | zero =>
        intro i hi hi2 hu
        have : i = 0 := by omega
        subst this
        refine ⟨0, mem_ready.2 ⟨hu, ops[0], by simp [hi2], ?_⟩⟩
        intro e he' hb
        have := inTurn_get ops.toList 0 0 ops[0] ht (by simp [hi2]) e he' hb
        omega
      | succ n ih =>
        intro i hi hi2 hu
        by_cases hall : ∀ e ∈ ops[i].after, Region.binds .any e = true → listed.getD e.on false = true
        · exact ⟨i, mem_ready.2 ⟨hu, ops[i], by simp [hi2], hall⟩⟩
        · have : ∃ e, e ∈ ops[i].after ∧ Region.binds .any e = true ∧ ¬ listed.getD e.on false = true := by
            refine Classical.byContradiction (fun hno => hall (fun e h1 h2 => Classical.byContradiction (fun h3 => hno ⟨e, h1, h2, h3⟩)))
          obtain ⟨e, h1, h2, h3⟩ := this
          have h4 := inTurn_get ops.toList 0 i ops[i] ht (by simp [hi2]) e h1 h2
          refine ih e.on (by omega) (by omega) ?_
          have h5 : e.on < listed.size := by omega
          simp [h5] at h3 ⊢
          exact h3
    exact go l.length l.length (Nat.le_refl _) (by omega) h0
  intro fuel
  induction fuel with
  | zero =>
    intro listed v w hs hc h0 hdc hB hA
    exfalso
    obtain ⟨i, hi⟩ := pos listed hs h0
    have h3 : listed.toList.countP (fun b => !b) = 0 := by omega
    rw [List.countP_eq_zero] at h3
    have h2 : l.length < listed.size := by omega
    have h4 := h3 listed[l.length] (by simp)
    simp [h2] at h0
    simp [h0] at h4
  | succ fuel ih =>
    intro listed v w hs hc h0 hdc hB hA
    refine ⟨fun hr => ?_, fun i hi => ?_⟩
    · exfalso
      obtain ⟨i, hi⟩ := pos listed hs h0
      rw [hr] at hi
      cases hi
    obtain ⟨h1, o, ho, hall⟩ := mem_ready.1 hi
    have h2 : i < listed.size := by
      rcases Nat.lt_or_ge i listed.size with h' | h'
      · exact h'
      · simp [Array.getElem?_eq_none h'] at h1
    have ho' : ops.toList[i]? = some o := by simpa using ho
    by_cases hil : i = l.length
    · -- the last one: all others have come up
      subst hil
      have hol : o = ol := by rw [hops] at ho'; simpa using ho'.symm
      subst hol
      have allL : ∀ n j, l.length - j ≤ n → j < l.length → listed.getD j false = true := by
        intro n
        induction n with
        | zero => intro j hj hj2; omega
        | succ n ihn =>
          intro j hj hj2
          have hcj := List.all_eq_true.1 hcv j (List.mem_range.2 (by omega))
          rw [List.any_eq_true] at hcj
          obtain ⟨o', ho2, hp⟩ := hcj
          obtain ⟨s, hs1, hs2⟩ := List.getElem_of_mem ho2
          have hp' := mem_predsOf.1 (by simpa using hp)
          obtain ⟨e, he1, he2, he3⟩ := hp'
          have hso : ops.toList[s]? = some o' := by rw [List.getElem?_eq_getElem hs1, hs2]
          have hlt := inTurn_get ops.toList 0 s o' ht hso e he1 he2
          have hs3 : s < ops.size := by simpa using hs1
          by_cases hsl : s = l.length
          · subst hsl
            have hoo : o' = o := by rw [hso] at ho'; exact Option.some.inj ho'
            subst hoo
            rw [← he3]
            exact hall e he1 he2
          · have := ihn s (by omega) (by omega)
            rw [← he3]
            exact hdc s o' (by simpa using hso) this e he1 he2
      refine wpOp_step ho (fun K' hK => ?_)
      refine hl v w hB (fun j hj => hA j (allL _ j (Nat.le_refl _) hj)) K' ?_
      intro a' w' hq
      apply hK
      have hr : Region.ready .any ops (listed.setIfInBounds l.length true) = [] := by
        cases h : Region.ready .any ops (listed.setIfInBounds l.length true) with
        | nil => rfl
        | cons j r =>
          exfalso
          have hm : j ∈ Region.ready .any ops (listed.setIfInBounds l.length true) := by rw [h]; exact List.mem_cons_self ..
          obtain ⟨g1, oj, g2, _⟩ := mem_ready.1 hm
          have g3 : j < ops.size := by
            rcases Nat.lt_or_ge j ops.size with h' | h'
            · exact h'
            · simp [Array.getElem?_eq_none h'] at g2
          by_cases hjl : j = l.length
          · subst hjl; simp [h2] at g1
          · have g4 := allL _ j (Nat.le_refl _) (by omega)
            have g5 : j < listed.size := by omega
            simp [Ne.symm hjl, g5] at g1 g4
            rw [g1] at g4; cases g4
      cases fuel with
      | zero => exact ⟨hr, hq⟩
      | succ f => exact ⟨fun _ => hq, by rw [hr]; intro j hj; cases hj⟩
    · have hi3 : i < l.length := by omega
      have hol : l[i]? = some o := by rw [hops, List.getElem?_append_left hi3] at ho'; exact ho'
      have hE := eachOps_get R B A l 0 i o he hol
      rw [Nat.zero_add] at hE
      refine wpOp_step ho (fun K' hK => ?_)
      refine hE v w hB (allOf_mem ?_) K' ?_
      · intro j hj
        obtain ⟨e, he1, he2, rfl⟩ := mem_predsOf.1 hj
        exact hA _ (hall e he1 he2)
      · intro u w' hR hB' hA'
        apply hK
        rw [putAll_put ops.toList 0 i o u v a hd ho', Nat.zero_add]
        have hget : ∀ k, k ≠ i → (listed.setIfInBounds i true).getD k false = listed.getD k false := by
          intro k hki
          simp [Ne.symm hki]
        refine ih _ _ w' (by simpa using hs) ?_ ?_ ?_ hB' ?_
        · have h5 : listed[i] = false := by simpa [h2] using h1
          have : (listed.setIfInBounds i true).toList = listed.toList.set i true := by simp
          rw [this, List.countP_set (by simpa using h2)]
          have h6 : 0 < listed.toList.countP (fun b => !b) := List.countP_pos_iff.2 ⟨false, by rw [← h5]; simp, rfl⟩
          simp only [Array.getElem_toList, h5, Bool.not_false, Bool.not_true, if_true]
          simp only [Bool.false_eq_true, if_false]
          omega
        · rw [← h0]; simp [hil]
        · intro k ok hk hlk e he1 he2
          by_cases hek : e.on = i
          · rw [hek]; simp [h2]
          · rw [hget _ hek]
            by_cases hki : k = i
            · subst hki
              have : ok = o := by rw [hk] at ho; exact Option.some.inj ho
              subst this
              exact hall e he1 he2
            · rw [hget _ hki] at hlk
              exact hdc k ok hk hlk e he1 he2
        · intro k hk
          by_cases hki : k = i
          · subst hki; simpa using hA'
          · simp only [hki, if_false]
            rw [hget _ hki] at hk
            exact hst _ _ _ _ hR (hA k hk)
/-- A region that draws its order and ends in one operation that waits for all others. -/
theorem wp_region_last {id : Nat} {a : Act} {w : World} (l : List Oper) (ol : Oper) (hops : ops.toList = l ++ [ol]) (hm : P.follows .mixedOrders = true) (hd : dstsApart ops.toList = true) (ht : inTurn 0 ops.toList = true) (hcv : covered ops = true) (hst : ∀ k v w w', R w w' → A k v w → A k v w') (hB : B w.drew)
    (he : EachOps P ops Q R B A a 0 l) (hl : ∀ v w, B w → (∀ i, i < l.length → A i (v i) w) → ∀ K : Act → World → Prop, (∀ a' w', Q .normal a' w' → K a' w') →
      if Region.wanted ol (yielded ops (putAll v 0 ops.toList a).tmps) = true then Oper.wp P ol (putAll v 0 ops.toList a) w K Q else K ((putAll v 0 ops.toList a).put ol.dst undef) w) : (Code.region id ops true).wp P Q a w := by
  have hsz : ops.size = l.length + 1 := by have := congrArg List.length hops; simpa using this
  have key := last_any R B A l ol hops hd ht hcv hst he hl ops.size (Array.replicate ops.size false) (fun i => match ops.toList[i]? with | some o => (match o.dst with | some t => a.tmps.getD t undef | none => undef) | none => undef) w.drew (by simp) (by rw [Array.toList_replicate]; exact Nat.le_trans List.countP_le_length (by simp)) (by simp [hsz]) (by intro k o _ hk; by_cases h : k < ops.size <;> simp [h] at hk) hB (by intro i hi; by_cases h : i < ops.size <;> simp [h] at hi)
  rw [putAll_self a ops.toList 0 _ (by intro i o ho; simp only [Nat.zero_add, ho])] at key
  exact wp_region_held (S := fun _ => True) hm (wp_region_each.held_of_any key)
/-- What is asked of each operation but the last one. -/
def EachBut (P : Program) (ops : Array Oper) (Q : Exit → Act → World → Prop) (R : World → World → Prop) (B : World → Prop) (A : Nat → Value → World → Prop) (a : Act) : Nat → List Oper → Prop
  | _, [] => True
  | _, [_] => True
  | i, o :: o' :: r => EachOp P ops Q R B A a i o ∧ EachBut P ops Q R B A a (i + 1) (o' :: r)
theorem eachBut_ops {a : Act} : ∀ (l : List Oper) (ol : Oper) (k : Nat), EachBut P ops Q R B A a k (l ++ [ol]) → EachOps P ops Q R B A a k l
  | [], _, _, _ => trivial
  | [o], _, _, h => ⟨h.1, trivial⟩
  | _ :: o' :: r, ol, k, h => ⟨h.1, eachBut_ops (o' :: r) ol (k + 1) h.2⟩
theorem EachBut.one {a : Act} {i : Nat} {o o' : Oper} {r : List Oper} (h : ∀ (v : Nat → Value) (w : World), B w → AllOf A v w (predsOf o) → ∀ K : Act → World → Prop, Shut (∀ u w', R w w' → B w' → A i u w' → K ((putAll v 0 ops.toList a).put o.dst u) w') →
    if Region.wanted o (yielded ops (putAll v 0 ops.toList a).tmps) = true then Oper.wp P o (putAll v 0 ops.toList a) w K Q else K ((putAll v 0 ops.toList a).put o.dst undef) w) (hr : EachBut P ops Q R B A a (i + 1) (o' :: r)) : EachBut P ops Q R B A a i (o :: o' :: r) :=
  ⟨fun v w hB hp K hK => h v w hB hp K hK, hr⟩
/-- A region that draws its order and ends in one operation that waits for all others. -/
theorem wp_region_last2 {id : Nat} {a : Act} {w : World} (ol : Oper) (hol : ops.toList.getLast? = some ol) (hm : P.follows .mixedOrders = true) (hd : dstsApart ops.toList = true) (ht : inTurn 0 ops.toList = true) (hcv : covered ops = true) (hst : ∀ k v w w', R w w' → A k v w → A k v w') (hB : B w.drew)
    (he : EachBut P ops Q R B A a 0 ops.toList) (hl : ∀ v w, B w → (∀ i, i < ops.size - 1 → A i (v i) w) → ∀ K : Act → World → Prop, Shut (∀ a' w', Q .normal a' w' → K a' w') →
      if Region.wanted ol (yielded ops (putAll v 0 ops.toList a).tmps) = true then Oper.wp P ol (putAll v 0 ops.toList a) w K Q else K ((putAll v 0 ops.toList a).put ol.dst undef) w) : (Code.region id ops true).wp P Q a w := by
  have hops : ops.toList = ops.toList.dropLast ++ [ol] := by
    have h0 := List.getLast?_eq_some_iff.1 hol
    obtain ⟨l, hl⟩ := h0
    rw [hl]; simp
  have hlen : ops.toList.dropLast.length = ops.size - 1 := by simp
  refine wp_region_last R B A ops.toList.dropLast ol hops hm hd ht hcv hst hB (eachBut_ops R B A _ ol 0 (hops ▸ he)) ?_
  intro v w hB' hA K hK
  exact hl v w hB' (fun j hj => hA j (by rw [hlen]; exact hj)) K hK
/-- The same where the last operation may write what another one reads: the values of all but it are laid. -/
def EachOpL (P : Program) (ops : Array Oper) (Q : Exit → Act → World → Prop) (R : World → World → Prop) (B : World → Prop) (A : Nat → Value → World → Prop) (a : Act) (l : List Oper) (i : Nat) (o : Oper) : Prop :=
  ∀ (v : Nat → Value) (w : World), B w → AllOf A v w (predsOf o) → ∀ K : Act → World → Prop, (∀ u w', R w w' → B w' → A i u w' → K ((putAll v 0 l a).put o.dst u) w') →
    if Region.wanted o (yielded ops (putAll v 0 l a).tmps) = true then Oper.wp P o (putAll v 0 l a) w K Q else K ((putAll v 0 l a).put o.dst undef) w
def EachOpsL (P : Program) (ops : Array Oper) (Q : Exit → Act → World → Prop) (R : World → World → Prop) (B : World → Prop) (A : Nat → Value → World → Prop) (a : Act) (l : List Oper) : Nat → List Oper → Prop
  | _, [] => True
  | i, o :: r => EachOpL P ops Q R B A a l i o ∧ EachOpsL P ops Q R B A a l (i + 1) r
theorem eachOpsL_get {a : Act} (l0 : List Oper) : ∀ (l : List Oper) (k i : Nat) (o : Oper), EachOpsL P ops Q R B A a l0 k l → l[i]? = some o → EachOpL P ops Q R B A a l0 (k + i) o
  | [], _, _, _, _, h => by simp at h
  | o' :: r, k, 0, o, hd, h => by
    simp only [List.getElem?_cons_zero, Option.some.injEq] at h
    subst h
    exact hd.1
  | o' :: r, k, i + 1, o, hd, h => by
    have := eachOpsL_get l0 r (k + 1) i o hd.2 (by simpa using h)
    rwa [show k + 1 + i = k + (i + 1) by omega] at this
theorem last_anyL {a : Act} (l : List Oper) (ol : Oper) (hops : ops.toList = l ++ [ol]) (hd : dstsApart l = true) (ht : inTurn 0 ops.toList = true) (hcv : covered ops = true) (hst : ∀ k v w w', R w w' → A k v w → A k v w')
    (he : EachOpsL P ops Q R B A a l 0 l) (hl : ∀ v w, B w → (∀ i, i < l.length → A i (v i) w) → ∀ K : Act → World → Prop, (∀ a' w', Q .normal a' w' → K a' w') →
      if Region.wanted ol (yielded ops (putAll v 0 l a).tmps) = true then Oper.wp P ol (putAll v 0 l a) w K Q else K ((putAll v 0 l a).put ol.dst undef) w) :
    ∀ (fuel : Nat) (listed : Array Bool) (v : Nat → Value) (w : World), listed.size = ops.size → listed.toList.countP (fun b => !b) ≤ fuel → listed.getD l.length true = false →
      (∀ (k : Nat) (o : Oper), ops[k]? = some o → listed.getD k false = true → ∀ e ∈ o.after, Region.binds .any e = true → listed.getD e.on false = true) → B w → (∀ i, listed.getD i false = true → A i (v i) w) →
      wpAny P .any ops Q fuel listed (putAll v 0 l a) w := by
  have hsz : ops.size = l.length + 1 := by have := congrArg List.length hops; simpa using this
  have pos : ∀ (listed : Array Bool), listed.size = ops.size → listed.getD l.length true = false → ∃ i, i ∈ Region.ready .any ops listed := by
    intro listed hs h0
    -- the least that has not come up
    have go : ∀ n i, i ≤ n → i < ops.size → listed.getD i true = false → ∃ i, i ∈ Region.ready .any ops listed := by
      intro n
      induction n with
      | zero =>
        intro i hi hi2 hu
        have : i = 0 := by omega
        subst this
        refine ⟨0, mem_ready.2 ⟨hu, ops[0], by simp [hi2], ?_⟩⟩
        intro e he' hb
        have := inTurn_get ops.toList 0 0 ops[0] ht (by simp [hi2]) e he' hb
        omega
      | succ n ih =>
        intro i hi hi2 hu
        by_cases hall : ∀ e ∈ ops[i].after, Region.binds .any e = true → listed.getD e.on false = true
        · exact ⟨i, mem_ready.2 ⟨hu, ops[i], by simp [hi2], hall⟩⟩
        · have : ∃ e, e ∈ ops[i].after ∧ Region.binds .any e = true ∧ ¬ listed.getD e.on false = true := by
            refine Classical.byContradiction (fun hno => hall (fun e h1 h2 => Classical.byContradiction (fun h3 => hno ⟨e, h1, h2, h3⟩)))
          obtain ⟨e, h1, h2, h3⟩ := this
          have h4 := inTurn_get ops.toList 0 i ops[i] ht (by simp [hi2]) e h1 h2
          refine ih e.on (by omega) (by omega) ?_
          have h5 : e.on < listed.size := by omega
          simp [h5] at h3 ⊢
          exact h3
    exact go l.length l.length (Nat.le_refl _) (by omega) h0
  intro fuel
  induction fuel with
  | zero =>
    intro listed v w hs hc h0 hdc hB hA
    exfalso
    obtain ⟨i, hi⟩ := pos listed hs h0
    have h3 : listed.toList.countP (fun b => !b) = 0 := by omega
    rw [List.countP_eq_zero] at h3
    have h2 : l.length < listed.size := by omega
    have h4 := h3 listed[l.length] (by simp)
    simp [h2] at h0
    simp [h0] at h4
  | succ fuel ih =>
    intro listed v w hs hc h0 hdc hB hA
    refine ⟨fun hr => ?_, fun i hi => ?_⟩
    · exfalso
      obtain ⟨i, hi⟩ := pos listed hs h0
      rw [hr] at hi
      cases hi
    obtain ⟨h1, o, ho, hall⟩ := mem_ready.1 hi
    have h2 : i < listed.size := by
      rcases Nat.lt_or_ge i listed.size with h' | h'
      · exact h'
      · simp [Array.getElem?_eq_none h'] at h1
    have ho' : ops.toList[i]? = some o := by simpa using ho
    by_cases hil : i = l.length
    · -- the last one: all others have come up
      subst hil
      have hol : o = ol := by rw [hops] at ho'; simpa using ho'.symm
      subst hol
      have allL : ∀ n j, l.length - j ≤ n → j < l.length → listed.getD j false = true := by
        intro n
        induction n with
        | zero => intro j hj hj2; omega
        | succ n ihn =>
          intro j hj hj2
          have hcj := List.all_eq_true.1 hcv j (List.mem_range.2 (by omega))
          rw [List.any_eq_true] at hcj
          obtain ⟨o', ho2, hp⟩ := hcj
          obtain ⟨s, hs1, hs2⟩ := List.getElem_of_mem ho2
          have hp' := mem_predsOf.1 (by simpa using hp)
          obtain ⟨e, he1, he2, he3⟩ := hp'
          have hso : ops.toList[s]? = some o' := by rw [List.getElem?_eq_getElem hs1, hs2]
          have hlt := inTurn_get ops.toList 0 s o' ht hso e he1 he2
          have hs3 : s < ops.size := by simpa using hs1
          by_cases hsl : s = l.length
          · subst hsl
            have hoo : o' = o := by rw [hso] at ho'; exact Option.some.inj ho'
            subst hoo
            rw [← he3]
            exact hall e he1 he2
          · have := ihn s (by omega) (by omega)
            rw [← he3]
            exact hdc s o' (by simpa using hso) this e he1 he2
      refine wpOp_step ho (fun K' hK => ?_)
      refine hl v w hB (fun j hj => hA j (allL _ j (Nat.le_refl _) hj)) K' ?_
      intro a' w' hq
      apply hK
      have hr : Region.ready .any ops (listed.setIfInBounds l.length true) = [] := by
        cases h : Region.ready .any ops (listed.setIfInBounds l.length true) with
        | nil => rfl
        | cons j r =>
          exfalso
          have hm : j ∈ Region.ready .any ops (listed.setIfInBounds l.length true) := by rw [h]; exact List.mem_cons_self ..
          obtain ⟨g1, oj, g2, _⟩ := mem_ready.1 hm
          have g3 : j < ops.size := by
            rcases Nat.lt_or_ge j ops.size with h' | h'
            · exact h'
            · simp [Array.getElem?_eq_none h'] at g2
          by_cases hjl : j = l.length
          · subst hjl; simp [h2] at g1
          · have g4 := allL _ j (Nat.le_refl _) (by omega)
            have g5 : j < listed.size := by omega
            simp [Ne.symm hjl, g5] at g1 g4
            rw [g1] at g4; cases g4
      cases fuel with
      | zero => exact ⟨hr, hq⟩
      | succ f => exact ⟨fun _ => hq, by rw [hr]; intro j hj; cases hj⟩
    · have hi3 : i < l.length := by omega
      have hol : l[i]? = some o := by rw [hops, List.getElem?_append_left hi3] at ho'; exact ho'
      have hE := eachOpsL_get R B A l l 0 i o he hol
      rw [Nat.zero_add] at hE
      refine wpOp_step ho (fun K' hK => ?_)
      refine hE v w hB (allOf_mem ?_) K' ?_
      · intro j hj
        obtain ⟨e, he1, he2, rfl⟩ := mem_predsOf.1 hj
        exact hA _ (hall e he1 he2)
      · intro u w' hR hB' hA'
        apply hK
        rw [putAll_put l 0 i o u v a hd hol, Nat.zero_add]
        have hget : ∀ k, k ≠ i → (listed.setIfInBounds i true).getD k false = listed.getD k false := by
          intro k hki
          simp [Ne.symm hki]
        refine ih _ _ w' (by simpa using hs) ?_ ?_ ?_ hB' ?_
        · have h5 : listed[i] = false := by simpa [h2] using h1
          have : (listed.setIfInBounds i true).toList = listed.toList.set i true := by simp
          rw [this, List.countP_set (by simpa using h2)]
          have h6 : 0 < listed.toList.countP (fun b => !b) := List.countP_pos_iff.2 ⟨false, by rw [← h5]; simp, rfl⟩
          simp only [Array.getElem_toList, h5, Bool.not_false, Bool.not_true, if_true]
          simp only [Bool.false_eq_true, if_false]
          omega
        · rw [← h0]; simp [hil]
        · intro k ok hk hlk e he1 he2
          by_cases hek : e.on = i
          · rw [hek]; simp [h2]
          · rw [hget _ hek]
            by_cases hki : k = i
            · subst hki
              have : ok = o := by rw [hk] at ho; exact Option.some.inj ho
              subst this
              exact hall e he1 he2
            · rw [hget _ hki] at hlk
              exact hdc k ok hk hlk e he1 he2
        · intro k hk
          by_cases hki : k = i
          · subst hki; simpa using hA'
          · simp only [hki, if_false]
            rw [hget _ hki] at hk
            exact hst _ _ _ _ hR (hA k hk)
theorem EachL.one {a : Act} {l0 : List Oper} {i : Nat} {o : Oper} {r : List Oper} (h : ∀ (v : Nat → Value) (w : World), B w → AllOf A v w (predsOf o) → ∀ K : Act → World → Prop, Shut (∀ u w', R w w' → B w' → A i u w' → K ((putAll v 0 l0 a).put o.dst u) w') →
    if Region.wanted o (yielded ops (putAll v 0 l0 a).tmps) = true then Oper.wp P o (putAll v 0 l0 a) w K Q else K ((putAll v 0 l0 a).put o.dst undef) w) (hr : EachOpsL P ops Q R B A a l0 (i + 1) r) : EachOpsL P ops Q R B A a l0 i (o :: r) :=
  ⟨fun v w hB hp K hK => h v w hB hp K hK, hr⟩
/-- A region that draws its order and ends in one operation that waits for all others, whatever it writes. -/
theorem wp_region_last3 {id : Nat} {a : Act} {w : World} (ol : Oper) (hol : ops.toList.getLast? = some ol) (l : List Oper) (hl0 : ops.toList.dropLast = l) (hm : P.follows .mixedOrders = true) (hd : dstsApart l = true) (ht : inTurn 0 ops.toList = true) (hcv : covered ops = true) (hst : ∀ k v w w', R w w' → A k v w → A k v w') (hB : B w.drew)
    (he : EachOpsL P ops Q R B A a l 0 l) (hl : ∀ v w, B w → (∀ i, i < ops.size - 1 → A i (v i) w) → ∀ K : Act → World → Prop, Shut (∀ a' w', Q .normal a' w' → K a' w') →
      if Region.wanted ol (yielded ops (putAll v 0 l a).tmps) = true then Oper.wp P ol (putAll v 0 l a) w K Q else K ((putAll v 0 l a).put ol.dst undef) w) : (Code.region id ops true).wp P Q a w := by
  have hops : ops.toList = l ++ [ol] := by
    obtain ⟨l', hl'⟩ := List.getLast?_eq_some_iff.1 hol
    rw [← hl0, hl']; simp
  have hsz : ops.size = l.length + 1 := by have := congrArg List.length hops; simpa using this
  have key := last_anyL R B A l ol hops hd ht hcv hst he (fun v w hB' hA K hK => hl v w hB' (fun j hj => hA j (by omega)) K hK) ops.size (Array.replicate ops.size false) (fun i => match l[i]? with | some o => (match o.dst with | some t => a.tmps.getD t undef | none => undef) | none => undef) w.drew (by simp) (by rw [Array.toList_replicate]; exact Nat.le_trans List.countP_le_length (by simp)) (by simp [hsz]) (by intro k o _ hk; by_cases h : k < ops.size <;> simp [h] at hk) hB (by intro i hi; by_cases h : i < ops.size <;> simp [h] at hi)
  rw [putAll_self a l 0 _ (by intro i o ho; simp only [Nat.zero_add, ho])] at key
  exact wp_region_held (S := fun _ => True) hm (wp_region_each.held_of_any key)
end

/-- A segment's options. -/
def sgO1 (m : Int) : List Int := if m = 0 then [] else [2, 4] ++ putL m 2
def sgO2 (hs : Bool) (sc : Int) : List Int := if hs then [1, 3, 3, sc] else []
def sgO3 (so : Bool) : List Int := if so then [1, 1, 4, 2] else []
def sgO4 (n : Nat) : List Int := if n = 0 then [] else [1, 1, 5, 2 + 8 * (n : Int)]
def sgO5 (z : List Int) : List Int := z.flatMap (fun x => putL x 4)
def segO (m : Int) (hs : Bool) (sc : Int) (so : Bool) (n : Nat) (z : List Int) : List Int := sgO1 m ++ sgO2 hs sc ++ sgO3 so ++ sgO4 n ++ sgO5 z
theorem sgO5_len (z : List Int) : (sgO5 z).length = 4 * z.length := by
  unfold sgO5
  induction z with
  | nil => rfl
  | cons a r ih => rw [List.flatMap_cons, List.length_append, ih, putL_len, List.length_cons]; omega
theorem sgO5_two (z : List Int) (k : Nat) (h : k * 2 + 1 < z.length) : sgO5 (z.take ((k + 1) * 2)) = sgO5 (z.take (k * 2)) ++ putL (z.getD (k * 2) 0) 4 ++ putL (z.getD (k * 2 + 1) 0) 4 := by
  have e1 : z.take ((k + 1) * 2) = z.take (k * 2) ++ [z.getD (k * 2) 0, z.getD (k * 2 + 1) 0] := by
    have h1 : k * 2 < z.length := by omega
    have g1 : z.getD (k * 2) 0 = z[k * 2] := by rw [List.getD_eq_getElem?_getD, List.getElem?_eq_getElem h1]; rfl
    have g2 : z.getD (k * 2 + 1) 0 = z[k * 2 + 1] := by rw [List.getD_eq_getElem?_getD, List.getElem?_eq_getElem h]; rfl
    rw [g1, g2, show (k + 1) * 2 = k * 2 + 1 + 1 by omega, ← List.take_append_getElem h, ← List.take_append_getElem h1, List.append_assoc]
    rfl
  unfold sgO5
  rw [e1, List.flatMap_append]
  simp
/-- The state between two options. -/
def OpS (w W : World) (vs : Array Value) (a0 : Option Addr) (z : List Int) (v : Value) (L : List Int) : Prop := OwnB W (w.heap.size + 1) v L ∧ Below w.heap.size w W ∧ HoldV W w.heap.size vs sgT ∧ ArrI W a0 z
theorem OpS.next {w W W' : World} {vs : Array Value} {a0 : Option Addr} {z : List Int} {v : Value} {L : List Int} (h : OpS w W vs a0 z v L) (hb : Below W.heap.size W W') : OpS w W' vs a0 z v L := ⟨h.1.nx hb, below_on h.2.1 hb, h.2.2.1.next hb, h.2.2.2.below hb (Nat.le_refl _)⟩
theorem OpS.put {w W : World} {vs : Array Value} {a0 : Option Addr} {z : List Int} {v u : Value} {L M : List Int} (h : OpS w W vs a0 z v L) (ho : OwnB W (w.heap.size + 1) u M) : OpS w W vs a0 z u M := ⟨ho, h.2⟩
/-- What each operation of a round leaves. -/
def A13 (N X b off k n0 c0 : Nat) (f t : Int) (L : List Int) : Nat → Value → World → Prop
  | 0, v, W => OwnB W N v L
  | 1, v, _ => v = .pointer (some ⟨X, 10, none⟩)
  | 2, v, _ => v = .slice (some ⟨b, off, none⟩) n0 c0
  | 3, v, _ => v = .int .i64 (k : Int)
  | 4, v, _ => v = .pointer (some ⟨b, off + k * 2, none⟩)
  | 5, v, _ => v = .pointer (some ⟨b, off + k * 2, none⟩)
  | 6, v, _ => v = .int .i64 f
  | 7, v, W => OwnB W N v (putL f 4)
  | 8, v, W => OwnB W N v (L ++ putL f 4)
  | 9, v, _ => v = .pointer (some ⟨X, 10, none⟩)
  | 10, v, _ => v = .slice (some ⟨b, off, none⟩) n0 c0
  | 11, v, _ => v = .int .i64 (k : Int)
  | 12, v, _ => v = .pointer (some ⟨b, off + k * 2, none⟩)
  | 13, v, _ => v = .pointer (some ⟨b, off + k * 2 + 1, none⟩)
  | 14, v, _ => v = .int .i64 t
  | 15, v, W => OwnB W N v (putL t 4)
  | 16, v, W => OwnB W N v (L ++ putL f 4 ++ putL t 4)
  | _, _, _ => True
theorem A13_kept {N X b off k n0 c0 : Nat} {f t : Int} {L : List Int} : ∀ (i : Nat) (v : Value) (W W2 : World), Below W.heap.size W W2 → A13 N X b off k n0 c0 f t L i v W → A13 N X b off k n0 c0 f t L i v W2 := by
  intro i v W W2 hb h
  unfold A13 at h ⊢
  split at h
  all_goals first
    | exact h
    | exact OwnB.nx h hb
end Go.Proofs.YtcnfnimgpiaamaaDoor
