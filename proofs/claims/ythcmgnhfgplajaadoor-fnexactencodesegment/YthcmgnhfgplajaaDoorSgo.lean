/-
Contracts of functions of this seat.
-/
import Derived.Test.YthcmgnhfgplajaaDoorRows
import Derived.WalkKit
import Derived.ProofKit
import Derived.OpenShut
import Derived.Test.YthcmgnhfgplajaaDoorSgk
import Derived.Deep.RegionHeld3
import Derived.Deep.DeepCutAuto
namespace Go.Proofs.YthcmgnhfgplajaaDoor
open Go.ChangeShapes Go.WideShapes Go.ChangeAt Go.RowKit
set_option linter.unusedVariables false
set_option maxRecDepth 100000
theorem OwnB.nx {w w' : World} {B : Nat} {v : Value} {zs : List Int} (h : OwnB w B v zs) (hb : Below w.heap.size w w') : OwnB w' B v zs := by
  refine ⟨⟨h.1.1, ?_⟩, h.2⟩
  rcases h.1.2 with hn | ⟨r, cap, cur, hv, hr, hc, rest⟩
  · exact .inl hn
  · exact .inr ⟨r, cap, cur, hv, hr, (hb.block r (Array.getElem?_eq_some_iff.1 hc).1).trans hc, rest⟩
theorem OwnB.low {w : World} {B C : Nat} {v : Value} {zs : List Int} (h : OwnB w B v zs) (hC : C ≤ B) : OwnB w C v zs := by
  refine ⟨⟨h.1.1, ?_⟩, h.2⟩
  rcases h.1.2 with hn | ⟨r, cap, cur, hv, hr, rest⟩
  · exact .inl hn
  · exact .inr ⟨r, cap, cur, hv, by omega, rest⟩

theorem litb_own (w : World) (zs : List Int) (hz : ∀ z ∈ zs, 0 ≤ z ∧ z ≤ 255) (hm : zs.length ≤ 1048576) : OwnB (w.alloc (.cells (bval zs).toArray 5)) w.heap.size (.slice (some ⟨w.heap.size, 0, none⟩) zs.length zs.length) zs :=
  ⟨World.ownsRow_lit (base := w.heap.size) (e := 5) (size := 1) w (bval zs).toArray zs.length (Nat.le_refl _) (by unfold maxLen; omega) (by simp [bval]), hz⟩

/-- The values v k laid into the operations' places. -/
def putAll (v : Nat → Value) : Nat → List Oper → Act → Act
  | _, [], a => a
  | k, o :: r, a => putAll v (k + 1) r (a.put o.dst (v k))
def dstsApart : List Oper → Bool
  | [] => true
  | o :: r => (match o.dst with | none => true | some d => r.all (fun o' => o'.dst != some d)) && dstsApart r
def inTurn : Nat → List Oper → Bool
  | _, [] => true
  | k, o :: r => o.after.all (fun e => !Region.binds .any e || decide (e.on < k)) && inTurn (k + 1) r
/-- Whom an operation waits for. -/
def predsOf (o : Oper) : List Nat := (o.after.toList.filter (Region.binds .any)).map (·.on)
def AllOf (A : Nat → Value → World → Prop) (v : Nat → Value) (w : World) : List Nat → Prop
  | [] => True
  | j :: r => A j (v j) w ∧ AllOf A v w r
theorem allOf_mem {A : Nat → Value → World → Prop} {v : Nat → Value} {w : World} : ∀ {l : List Nat}, (∀ j ∈ l, A j (v j) w) → AllOf A v w l
  | [], _ => trivial
  | _ :: _, h => ⟨h _ (List.mem_cons_self ..), allOf_mem (fun j hj => h j (List.mem_cons_of_mem _ hj))⟩
theorem put_same (a : Act) (d : Option Tmp) : a.put d (match d with | some t => a.tmps.getD t undef | none => undef) = a := by
  cases d with
  | none => rfl
  | some t =>
    simp only [Act.put]
    congr 1
    by_cases h : t < a.tmps.size
    · simp [Array.setIfInBounds, h]
    · simp [Array.setIfInBounds, h]
theorem put_put (a : Act) (d : Option Tmp) (u v : Value) : (a.put d u).put d v = a.put d v := by
  cases d with
  | none => rfl
  | some t => simp [Act.put]
theorem putAll_self (a : Act) : ∀ (l : List Oper) (k : Nat) (v : Nat → Value), (∀ (i : Nat) (o : Oper), l[i]? = some o → v (k + i) = (match o.dst with | some t => a.tmps.getD t undef | none => undef)) → putAll v k l a = a
  | [], _, _, _ => rfl
  | o :: r, k, v, h => by
    have h0 := h 0 o rfl
    rw [Nat.add_zero] at h0
    rw [putAll, h0, put_same]
    exact putAll_self a r (k + 1) v (fun i o' ho => by have := h (i + 1) o' (by simpa using ho); rwa [show k + (i + 1) = k + 1 + i by omega] at this)
theorem put_out (o : Oper) (u : Value) (v : Nat → Value) : ∀ (l : List Oper) (k : Nat) (a : Act), (match o.dst with | none => true | some d => l.all (fun o' => o'.dst != some d)) = true → (putAll v k l a).put o.dst u = putAll v k l (a.put o.dst u)
  | [], _, _, _ => rfl
  | o' :: r, k, a, h => by
    cases hd : o.dst with
    | none => rfl
    | some d =>
      rw [hd] at h
      simp only [List.all_cons, Bool.and_eq_true] at h
      rw [putAll, putAll, ← hd, put_out o u v r (k + 1) _ (by rw [hd]; exact h.2)]
      congr 1
      refine Act.put_comm a _ _ ?_
      intro d' h1 h2
      rw [hd] at h2; cases h2
      have := h.1
      rw [h1] at this
      simp at this
theorem putAll_put : ∀ (l : List Oper) (k i : Nat) (o : Oper) (u : Value) (v : Nat → Value) (a : Act), dstsApart l = true → l[i]? = some o →
    (putAll v k l a).put o.dst u = putAll (fun j => if j = k + i then u else v j) k l a
  | [], _, _, _, _, _, _, _, h => by simp at h
  | o' :: r, k, 0, o, u, v, a, hd, h => by
    simp only [List.getElem?_cons_zero, Option.some.injEq] at h
    subst h
    simp only [dstsApart, Bool.and_eq_true] at hd
    rw [putAll, put_out o' u v r (k + 1) _ hd.1, put_put, putAll]
    simp only [Nat.add_zero, if_true]
    exact putAll_congr r (k + 1) _ _ _ (fun i _ => by simp; omega)
  | o' :: r, k, i + 1, o, u, v, a, hd, h => by
    simp only [dstsApart, Bool.and_eq_true] at hd
    rw [putAll, putAll_put r (k + 1) i o u v _ hd.2 (by simpa using h), putAll]
    rw [if_neg (by omega)]
    exact putAll_congr r (k + 1) _ _ _ (fun i' _ => by rw [show k + 1 + i = k + (i + 1) by omega])
where
  putAll_congr : ∀ (l : List Oper) (k : Nat) (v v' : Nat → Value) (a : Act), (∀ i, i < l.length → v (k + i) = v' (k + i)) → putAll v k l a = putAll v' k l a
  | [], _, _, _, _, _ => rfl
  | o :: r, k, v, v', a, h => by
    have h0 := h 0 (by simp)
    rw [Nat.add_zero] at h0
    rw [putAll, putAll, h0]
    exact putAll_congr r (k + 1) v v' _ (fun i hi => by have := h (i + 1) (by simpa using hi); rwa [show k + (i + 1) = k + 1 + i by omega] at this)
theorem inTurn_get : ∀ (l : List Oper) (k i : Nat) (o : Oper), inTurn k l = true → l[i]? = some o → ∀ e ∈ o.after, Region.binds .any e = true → e.on < k + i
  | [], _, _, _, _, h => by simp at h
  | o' :: r, k, 0, o, hd, h => by
    simp only [List.getElem?_cons_zero, Option.some.injEq] at h
    subst h
    simp only [inTurn, Bool.and_eq_true, Array.all_eq_true'] at hd
    intro e he hb
    have := hd.1 e he
    simpa [hb] using this
  | o' :: r, k, i + 1, o, hd, h => by
    simp only [inTurn, Bool.and_eq_true] at hd
    intro e he hb
    have := inTurn_get r (k + 1) i o hd.2 (by simpa using h) e he hb
    omega
section
variable {P : Program} {ops : Array Oper} {Q : Exit → Act → World → Prop} (R : World → World → Prop) (B : World → Prop) (A : Nat → Value → World → Prop)
/-- What is asked of one operation: from what those have left that it waits for, it leaves its own. -/
def EachOp (P : Program) (ops : Array Oper) (Q : Exit → Act → World → Prop) (R : World → World → Prop) (B : World → Prop) (A : Nat → Value → World → Prop) (a : Act) (i : Nat) (o : Oper) : Prop :=
  ∀ (v : Nat → Value) (w : World), B w → AllOf A v w (predsOf o) → ∀ K : Act → World → Prop, (∀ u w', R w w' → B w' → A i u w' → K ((putAll v 0 ops.toList a).put o.dst u) w') →
    if Region.wanted o (yielded ops (putAll v 0 ops.toList a).tmps) = true then Oper.wp P o (putAll v 0 ops.toList a) w K Q else K ((putAll v 0 ops.toList a).put o.dst undef) w
def EachOps (P : Program) (ops : Array Oper) (Q : Exit → Act → World → Prop) (R : World → World → Prop) (B : World → Prop) (A : Nat → Value → World → Prop) (a : Act) : Nat → List Oper → Prop
  | _, [] => True
  | i, o :: r => EachOp P ops Q R B A a i o ∧ EachOps P ops Q R B A a (i + 1) r
theorem eachOps_get {a : Act} : ∀ (l : List Oper) (k i : Nat) (o : Oper), EachOps P ops Q R B A a k l → l[i]? = some o → EachOp P ops Q R B A a (k + i) o
  | [], _, _, _, _, h => by simp at h
  | o' :: r, k, 0, o, hd, h => by
    simp only [List.getElem?_cons_zero, Option.some.injEq] at h
    subst h
    exact hd.1
  | o' :: r, k, i + 1, o, hd, h => by
    have := eachOps_get r (k + 1) i o hd.2 (by simpa using h)
    rwa [show k + 1 + i = k + (i + 1) by omega] at this
theorem each_any {a : Act} (hd : dstsApart ops.toList = true) (ht : inTurn 0 ops.toList = true) (hst : ∀ k v w w', R w w' → A k v w → A k v w')
    (he : EachOps P ops Q R B A a 0 ops.toList) (hf : ∀ v w, B w → (∀ i, i < ops.size → A i (v i) w) → Q .normal (putAll v 0 ops.toList a) w) :
    ∀ (fuel : Nat) (listed : Array Bool) (v : Nat → Value) (w : World), listed.size = ops.size → listed.toList.countP (fun b => !b) ≤ fuel → B w → (∀ i, listed.getD i false = true → A i (v i) w) →
      wpAny P .any ops Q fuel listed (putAll v 0 ops.toList a) w := by
  have done : ∀ (listed : Array Bool) (v : Nat → Value) (w : World), listed.size = ops.size → B w → (∀ i, listed.getD i false = true → A i (v i) w) → Region.ready .any ops listed = [] → Q .normal (putAll v 0 ops.toList a) w := by
    intro listed v w hs hB hA hr
    have all : ∀ n i, i < n → i < ops.size → listed.getD i false = true := by
      intro n
      induction n with
      | zero => intro i hi; omega
      | succ n ih =>
        intro i hi hi2
        by_cases hl : listed.getD i false = true
        · exact hl
        · exfalso
          have hm : i ∈ Region.ready .any ops listed := by
            refine mem_ready.2 ⟨?_, ops[i], by simp [hi2], ?_⟩
            · have h1 : i < listed.size := by omega
              simp [h1] at hl ⊢
              exact hl
            · intro e he' hb
              have h2 := inTurn_get ops.toList 0 i ops[i] ht (by simp [hi2]) e he' hb
              exact ih e.on (by omega) (by omega)
          rw [hr] at hm
          cases hm
    exact hf v w hB (fun i hi => hA i (all (i + 1) i (Nat.lt_succ_self _) hi))
  intro fuel
  induction fuel with
  | zero =>
    intro listed v w hs hc hB hA
    have hr : Region.ready .any ops listed = [] := by
      cases h : Region.ready .any ops listed with
      | nil => rfl
      | cons i r =>
        exfalso
        have hm : i ∈ Region.ready .any ops listed := by rw [h]; exact List.mem_cons_self ..
        have h1 := (mem_ready.1 hm).1
        have h2 : i < listed.size := by
          rcases Nat.lt_or_ge i listed.size with h' | h'
          · exact h'
          · simp [Array.getElem?_eq_none h'] at h1
        have h3 : listed.toList.countP (fun b => !b) = 0 := by omega
        rw [List.countP_eq_zero] at h3
        have h4 := h3 listed[i] (by simp)
        simp [h2] at h1
        simp [h1] at h4
    exact ⟨hr, done listed v w hs hB hA hr⟩
  | succ fuel ih =>
    intro listed v w hs hc hB hA
    refine ⟨fun hr => done listed v w hs hB hA hr, fun i hi => ?_⟩
    obtain ⟨h1, o, ho, hall⟩ := mem_ready.1 hi
    have h2 : i < listed.size := by
      rcases Nat.lt_or_ge i listed.size with h' | h'
      · exact h'
      · simp [Array.getElem?_eq_none h'] at h1
    have ho' : ops.toList[i]? = some o := by simpa using ho
    have hE := eachOps_get R B A ops.toList 0 i o he ho'
    rw [Nat.zero_add] at hE
    refine wpOp_step ho (fun K' hK => ?_)
    refine hE v w hB (allOf_mem ?_) K' ?_
    · intro j hj
      simp only [predsOf, List.mem_map, List.mem_filter] at hj
      obtain ⟨e, ⟨he1, he2⟩, rfl⟩ := hj
      exact hA _ (hall e (by simpa using he1) he2)
    · intro u w' hR hB' hA'
      apply hK
      rw [putAll_put ops.toList 0 i o u v a hd ho', Nat.zero_add]
      refine ih _ _ w' (by simpa using hs) ?_ hB' ?_
      · have h5 : listed[i] = false := by simpa [h2] using h1
        have : (listed.setIfInBounds i true).toList = listed.toList.set i true := by simp
        rw [this, List.countP_set (by simpa using h2)]
        have h6 : 0 < listed.toList.countP (fun b => !b) := List.countP_pos_iff.2 ⟨false, by rw [← h5]; simp, rfl⟩
        simp only [Array.getElem_toList, h5, Bool.not_false, Bool.not_true, if_true]
        simp only [Bool.false_eq_true, if_false]
        omega
      · intro k hk
        by_cases hki : k = i
        · subst hki; simpa using hA'
        · simp only [hki, if_false]
          refine hst _ _ _ _ hR (hA k ?_)
          have : (listed.setIfInBounds i true).getD k false = listed.getD k false := by
            simp [Ne.symm hki]
          rwa [this] at hk
/-- A region that draws its order, one obligation an operation: R is what an operation may do to the world, B what holds throughout, A i what number i leaves (kept by R). -/
theorem wp_region_each {id : Nat} {a : Act} {w : World} (hm : P.follows .mixedOrders = true) (hd : dstsApart ops.toList = true) (ht : inTurn 0 ops.toList = true) (hst : ∀ k v w w', R w w' → A k v w → A k v w') (hB : B w.drew)
    (he : EachOps P ops Q R B A a 0 ops.toList) (hf : ∀ v w, B w → (∀ i, i < ops.size → A i (v i) w) → Q .normal (putAll v 0 ops.toList a) w) : (Code.region id ops true).wp P Q a w := by
  have key := each_any R B A hd ht hst he hf ops.size (Array.replicate ops.size false) (fun i => match ops.toList[i]? with | some o => (match o.dst with | some t => a.tmps.getD t undef | none => undef) | none => undef) w.drew (by simp) (by rw [Array.toList_replicate]; exact Nat.le_trans List.countP_le_length (by simp)) hB (by intro i hi; by_cases h : i < ops.size <;> simp [h] at hi)
  rw [putAll_self a ops.toList 0 _ (by intro i o ho; simp only [Nat.zero_add, ho])] at key
  exact wp_region_held (S := fun _ => True) hm (held_of_any key)
where
  held_of_any : ∀ {fuel : Nat} {listed : Array Bool} {a : Act} {w : World}, wpAny P .any ops Q fuel listed a w → wpAnyH P .any ops Q (fun _ => True) fuel listed a w
  | 0, _, _, _, h => h
  | fuel + 1, _, _, _, h => ⟨h.1, fun i hi => wpOp_mono (fun a' w' h' => ⟨trivial, held_of_any h'⟩) (h.2 i hi)⟩
/-- Every operation but the last one has one that waits for it. -/
def covered (ops : Array Oper) : Bool := (List.range (ops.size - 1)).all (fun j => ops.toList.any (fun o => (predsOf o).contains j))
theorem mem_predsOf {o : Oper} {j : Nat} : j ∈ predsOf o ↔ ∃ e ∈ o.after, Region.binds .any e = true ∧ e.on = j := by
  simp only [predsOf, List.mem_map, List.mem_filter]
  constructor
  · rintro ⟨e, ⟨h1, h2⟩, h3⟩; exact ⟨e, by simpa using h1, h2, h3⟩
  · rintro ⟨e, h1, h2, h3⟩; exact ⟨e, ⟨by simpa using h1, h2⟩, h3⟩
theorem last_any {a : Act} (l : List Oper) (ol : Oper) (hops : ops.toList = l ++ [ol]) (hd : dstsApart ops.toList = true) (ht : inTurn 0 ops.toList = true) (hcv : covered ops = true) (hst : ∀ k v w w', R w w' → A k v w → A k v w')
    (he : EachOps P ops Q R B A a 0 l) (hl : ∀ v w, B w → (∀ i, i < l.length → A i (v i) w) → ∀ K : Act → World → Prop, (∀ a' w', Q .normal a' w' → K a' w') →
      if Region.wanted ol (yielded ops (putAll v 0 ops.toList a).tmps) = true then Oper.wp P ol (putAll v 0 ops.toList a) w K Q else K ((putAll v 0 ops.toList a).put ol.dst undef) w) :
    ∀ (fuel : Nat) (listed : Array Bool) (v : Nat → Value) (w : World), listed.size = ops.size → listed.toList.countP (fun b => !b) ≤ fuel → listed.getD l.length true = false →
      (∀ (k : Nat) (o : Oper), ops[k]? = some o → listed.getD k false = true → ∀ e ∈ o.after, Region.binds .any e = true → listed.getD e.on false = true) → B w → (∀ i, listed.getD i false = true → A i (v i) w) →
      wpAny P .any ops Q fuel listed (putAll v 0 ops.toList a) w := by
  have hsz : ops.size = l.length + 1 := by have := congrArg List.length hops; simpa using this
  have pos : ∀ (listed : Array Bool), listed.size = ops.size → listed.getD l.length true = false → ∃ i, i ∈ Region.ready .any ops listed := by
    intro listed hs h0
    -- the least that has not come up
    have go : ∀ n i, i ≤ n → i < ops.size → listed.getD i true = false → ∃ i, i ∈ Region.ready .any ops listed := by
      intro n
      induction n with
      | zero =>
        intro i hi hi2 hu
        have : i = 0 := by omega
        subst this
        refine ⟨0, mem_ready.2 ⟨hu, ops[0], by simp [hi2], ?_⟩⟩
        intro e he' hb
        have := inTurn_get ops.toList 0 0 ops[0] ht (by simp [hi2]) e he' hb
        omega
      | succ n ih =>
        intro i hi hi2 hu
        by_cases hall : ∀ e ∈ ops[i].after, Region.binds .any e = true → listed.getD e.on false = true
        · exact ⟨i, mem_ready.2 ⟨hu, ops[i], by simp [hi2], hall⟩⟩
        · have : ∃ e, e ∈ ops[i].after ∧ Region.binds .any e = true ∧ ¬ listed.getD e.on false = true := by
            refine Classical.byContradiction (fun hno => hall (fun e h1 h2 => Classical.byContradiction (fun h3 => hno ⟨e, h1, h2, h3⟩)))
          obtain ⟨e, h1, h2, h3⟩ := this
          have h4 := inTurn_get ops.toList 0 i ops[i] ht (by simp [hi2]) e h1 h2
          refine ih e.on (by omega) (by omega) ?_
          have h5 : e.on < listed.size := by omega
          simp [h5] at h3 ⊢
          exact h3
    exact go l.length l.length (Nat.le_refl _) (by omega) h0
  intro fuel
  induction fuel with
  | zero =>
    intro listed v w hs hc h0 hdc hB hA
    exfalso
    obtain ⟨i, hi⟩ := pos listed hs h0
    have h3 : listed.toList.countP (fun b => !b) = 0 := by omega
    rw [List.countP_eq_zero] at h3
    have h2 : l.length < listed.size := by omega
    have h4 := h3 listed[l.length] (by simp)
    simp [h2] at h0
    simp [h0] at h4
  | succ fuel ih =>
    intro listed v w hs hc h0 hdc hB hA
    refine ⟨fun hr => ?_, fun i hi => ?_⟩
    · exfalso
      obtain ⟨i, hi⟩ := pos listed hs h0
      rw [hr] at hi
      cases hi
    obtain ⟨h1, o, ho, hall⟩ := mem_ready.1 hi
    have h2 : i < listed.size := by
      rcases Nat.lt_or_ge i listed.size with h' | h'
      · exact h'
      · simp [Array.getElem?_eq_none h'] at h1
    have ho' : ops.toList[i]? = some o := by simpa using ho
    by_cases hil : i = l.length
    · -- the last one: all others have come up
      subst hil
      have hol : o = ol := by rw [hops] at ho'; simpa using ho'.symm
      subst hol
      have allL : ∀ n j, l.length - j ≤ n → j < l.length → listed.getD j false = true := by
        intro n
        induction n with
        | zero => intro j hj hj2; omega
        | succ n ihn =>
          intro j hj hj2
          have hcj := List.all_eq_true.1 hcv j (List.mem_range.2 (by omega))
          rw [List.any_eq_true] at hcj
          obtain ⟨o', ho2, hp⟩ := hcj
          obtain ⟨s, hs1, hs2⟩ := List.getElem_of_mem ho2
          have hp' := mem_predsOf.1 (by simpa using hp)
          obtain ⟨e, he1, he2, he3⟩ := hp'
          have hso : ops.toList[s]? = some o' := by rw [List.getElem?_eq_getElem hs1, hs2]
          have hlt := inTurn_get ops.toList 0 s o' ht hso e he1 he2
          have hs3 : s < ops.size := by simpa using hs1
          by_cases hsl : s = l.length
          · subst hsl
            have hoo : o' = o := by rw [hso] at ho'; exact Option.some.inj ho'
            subst hoo
            rw [← he3]
            exact hall e he1 he2
          · have := ihn s (by omega) (by omega)
            rw [← he3]
            exact hdc s o' (by simpa using hso) this e he1 he2
      refine wpOp_step ho (fun K' hK => ?_)
      refine hl v w hB (fun j hj => hA j (allL _ j (Nat.le_refl _) hj)) K' ?_
      intro a' w' hq
      apply hK
      have hr : Region.ready .any ops (listed.setIfInBounds l.length true) = [] := by
        cases h : Region.ready .any ops (listed.setIfInBounds l.length true) with
        | nil => rfl
        | cons j r =>
          exfalso
          have hm : j ∈ Region.ready .any ops (listed.setIfInBounds l.length true) := by rw [h]; exact List.mem_cons_self ..
          obtain ⟨g1, oj, g2, _⟩ := mem_ready.1 hm
          have g3 : j < ops.size := by
            rcases Nat.lt_or_ge j ops.size with h' | h'
            · exact h'
            · simp [Array.getElem?_eq_none h'] at g2
          by_cases hjl : j = l.length
          · subst hjl; simp [h2] at g1
          · have g4 := allL _ j (Nat.le_refl _) (by omega)
            have g5 : j < listed.size := by omega
            simp [Ne.symm hjl, g5] at g1 g4
            rw [g1] at g4; cases g4
      cases fuel with
      | zero => exact ⟨hr, hq⟩
      | succ f => exact ⟨fun _ => hq, by rw [hr]; intro j hj; cases hj⟩
    · have hi3 : i < l.length := by omega
      have hol : l[i]? = some o := by rw [hops, List.getElem?_append_left hi3] at ho'; exact ho'
      have hE := eachOps_get R B A l 0 i o he hol
      rw [Nat.zero_add] at hE
      refine wpOp_step ho (fun K' hK => ?_)
      refine hE v w hB (allOf_mem ?_) K' ?_
      · intro j hj
        obtain ⟨e, he1, he2, rfl⟩ := mem_predsOf.1 hj
        exact hA _ (hall e he1 he2)
      · intro u w' hR hB' hA'
        apply hK
        rw [putAll_put ops.toList 0 i o u v a hd ho', Nat.zero_add]
        have hget : ∀ k, k ≠ i → (listed.setIfInBounds i true).getD k false = listed.getD k false := by
          intro k hki
          simp [Ne.symm hki]
        refine ih _ _ w' (by simpa using hs) ?_ ?_ ?_ hB' ?_
        · have h5 : listed[i] = false := by simpa [h2] using h1
          have : (listed.setIfInBounds i true).toList = listed.toList.set i true := by simp
          rw [this, List.countP_set (by simpa using h2)]
          have h6 : 0 < listed.toList.countP (fun b => !b) := List.countP_pos_iff.2 ⟨false, by rw [← h5]; simp, rfl⟩
          simp only [Array.getElem_toList, h5, Bool.not_false, Bool.not_true, if_true]
          simp only [Bool.false_eq_true, if_false]
          omega
        · rw [← h0]; simp [hil]
        · intro k ok hk hlk e he1 he2
          by_cases hek : e.on = i
          · rw [hek]; simp [h2]
          · rw [hget _ hek]
            by_cases hki : k = i
            · subst hki
              have : ok = o := by rw [hk] at ho; exact Option.some.inj ho
              subst this
              exact hall e he1 he2
            · rw [hget _ hki] at hlk
              exact hdc k ok hk hlk e he1 he2
        · intro k hk
          by_cases hki : k = i
          · subst hki; simpa using hA'
          · simp only [hki, if_false]
            rw [hget _ hki] at hk
            exact hst _ _ _ _ hR (hA k hk)
/-- A region that draws its order and ends in one operation that waits for all others. -/
theorem wp_region_last {id : Nat} {a : Act} {w : World} (l : List Oper) (ol : Oper) (hops : ops.toList = l ++ [ol]) (hm : P.follows .mixedOrders = true) (hd : dstsApart ops.toList = true) (ht : inTurn 0 ops.toList = true) (hcv : covered ops = true) (hst : ∀ k v w w', R w w' → A k v w → A k v w') (hB : B w.drew)
    (he : EachOps P ops Q R B A a 0 l) (hl : ∀ v w, B w → (∀ i, i < l.length → A i (v i) w) → ∀ K : Act → World → Prop, (∀ a' w', Q .normal a' w' → K a' w') →
      if Region.wanted ol (yielded ops (putAll v 0 ops.toList a).tmps) = true then Oper.wp P ol (putAll v 0 ops.toList a) w K Q else K ((putAll v 0 ops.toList a).put ol.dst undef) w) : (Code.region id ops true).wp P Q a w := by
  have hsz : ops.size = l.length + 1 := by have := congrArg List.length hops; simpa using this
  have key := last_any R B A l ol hops hd ht hcv hst he hl ops.size (Array.replicate ops.size false) (fun i => match ops.toList[i]? with | some o => (match o.dst with | some t => a.tmps.getD t undef | none => undef) | none => undef) w.drew (by simp) (by rw [Array.toList_replicate]; exact Nat.le_trans List.countP_le_length (by simp)) (by simp [hsz]) (by intro k o _ hk; by_cases h : k < ops.size <;> simp [h] at hk) hB (by intro i hi; by_cases h : i < ops.size <;> simp [h] at hi)
  rw [putAll_self a ops.toList 0 _ (by intro i o ho; simp only [Nat.zero_add, ho])] at key
  exact wp_region_held (S := fun _ => True) hm (wp_region_each.held_of_any key)
/-- What is asked of each operation but the last one. -/
def EachBut (P : Program) (ops : Array Oper) (Q : Exit → Act → World → Prop) (R : World → World → Prop) (B : World → Prop) (A : Nat → Value → World → Prop) (a : Act) : Nat → List Oper → Prop
  | _, [] => True
  | _, [_] => True
  | i, o :: o' :: r => EachOp P ops Q R B A a i o ∧ EachBut P ops Q R B A a (i + 1) (o' :: r)
theorem eachBut_ops {a : Act} : ∀ (l : List Oper) (ol : Oper) (k : Nat), EachBut P ops Q R B A a k (l ++ [ol]) → EachOps P ops Q R B A a k l
  | [], _, _, _ => trivial
  | [o], _, _, h => ⟨h.1, trivial⟩
  | _ :: o' :: r, ol, k, h => ⟨h.1, eachBut_ops (o' :: r) ol (k + 1) h.2⟩
theorem EachBut.one {a : Act} {i : Nat} {o o' : Oper} {r : List Oper} (h : ∀ (v : Nat → Value) (w : World), B w → AllOf A v w (predsOf o) → ∀ K : Act → World → Prop, Shut (∀ u w', R w w' → B w' → A i u w' → K ((putAll v 0 ops.toList a).put o.dst u) w') →
    if Region.wanted o (yielded ops (putAll v 0 ops.toList a).tmps) = true then Oper.wp P o (putAll v 0 ops.toList a) w K Q else K ((putAll v 0 ops.toList a).put o.dst undef) w) (hr : EachBut P ops Q R B A a (i + 1) (o' :: r)) : EachBut P ops Q R B A a i (o :: o' :: r) :=
  ⟨fun v w hB hp K hK => h v w hB hp K hK, hr⟩
/-- A region that draws its order and ends in one operation that waits for all others. -/
theorem wp_region_last2 {id : Nat} {a : Act} {w : World} (ol : Oper) (hol : ops.toList.getLast? = some ol) (hm : P.follows .mixedOrders = true) (hd : dstsApart ops.toList = true) (ht : inTurn 0 ops.toList = true) (hcv : covered ops = true) (hst : ∀ k v w w', R w w' → A k v w → A k v w') (hB : B w.drew)
    (he : EachBut P ops Q R B A a 0 ops.toList) (hl : ∀ v w, B w → (∀ i, i < ops.size - 1 → A i (v i) w) → ∀ K : Act → World → Prop, Shut (∀ a' w', Q .normal a' w' → K a' w') →
      if Region.wanted ol (yielded ops (putAll v 0 ops.toList a).tmps) = true then Oper.wp P ol (putAll v 0 ops.toList a) w K Q else K ((putAll v 0 ops.toList a).put ol.dst undef) w) : (Code.region id ops true).wp P Q a w := by
  have hops : ops.toList = ops.toList.dropLast ++ [ol] := by
    have h0 := List.getLast?_eq_some_iff.1 hol
    obtain ⟨l, hl⟩ := h0
    rw [hl]; simp
  have hlen : ops.toList.dropLast.length = ops.size - 1 := by simp
  refine wp_region_last R B A ops.toList.dropLast ol hops hm hd ht hcv hst hB (eachBut_ops R B A _ ol 0 (hops ▸ he)) ?_
  intro v w hB' hA K hK
  exact hl v w hB' (fun j hj => hA j (by rw [hlen]; exact hj)) K hK
/-- The same where the last operation may write what another one reads: the values of all but it are laid. -/
def EachOpL (P : Program) (ops : Array Oper) (Q : Exit → Act → World → Prop) (R : World → World → Prop) (B : World → Prop) (A : Nat → Value → World → Prop) (a : Act) (l : List Oper) (i : Nat) (o : Oper) : Prop :=
  ∀ (v : Nat → Value) (w : World), B w → AllOf A v w (predsOf o) → ∀ K : Act → World → Prop, (∀ u w', R w w' → B w' → A i u w' → K ((putAll v 0 l a).put o.dst u) w') →
    if Region.wanted o (yielded ops (putAll v 0 l a).tmps) = true then Oper.wp P o (putAll v 0 l a) w K Q else K ((putAll v 0 l a).put o.dst undef) w
def EachOpsL (P : Program) (ops : Array Oper) (Q : Exit → Act → World → Prop) (R : World → World → Prop) (B : World → Prop) (A : Nat → Value → World → Prop) (a : Act) (l : List Oper) : Nat → List Oper → Prop
  | _, [] => True
  | i, o :: r => EachOpL P ops Q R B A a l i o ∧ EachOpsL P ops Q R B A a l (i + 1) r
theorem eachOpsL_get {a : Act} (l0 : List Oper) : ∀ (l : List Oper) (k i : Nat) (o : Oper), EachOpsL P ops Q R B A a l0 k l → l[i]? = some o → EachOpL P ops Q R B A a l0 (k + i) o
  | [], _, _, _, _, h => by simp at h
  | o' :: r, k, 0, o, hd, h => by
    simp only [List.getElem?_cons_zero, Option.some.injEq] at h
    subst h
    exact hd.1
  | o' :: r, k, i + 1, o, hd, h => by
    have := eachOpsL_get l0 r (k + 1) i o hd.2 (by simpa using h)
    rwa [show k + 1 + i = k + (i + 1) by omega] at this
theorem last_anyL {a : Act} (l : List Oper) (ol : Oper) (hops : ops.toList = l ++ [ol]) (hd : dstsApart l = true) (ht : inTurn 0 ops.toList = true) (hcv : covered ops = true) (hst : ∀ k v w w', R w w' → A k v w → A k v w')
    (he : EachOpsL P ops Q R B A a l 0 l) (hl : ∀ v w, B w → (∀ i, i < l.length → A i (v i) w) → ∀ K : Act → World → Prop, (∀ a' w', Q .normal a' w' → K a' w') →
      if Region.wanted ol (yielded ops (putAll v 0 l a).tmps) = true then Oper.wp P ol (putAll v 0 l a) w K Q else K ((putAll v 0 l a).put ol.dst undef) w) :
    ∀ (fuel : Nat) (listed : Array Bool) (v : Nat → Value) (w : World), listed.size = ops.size → listed.toList.countP (fun b => !b) ≤ fuel → listed.getD l.length true = false →
      (∀ (k : Nat) (o : Oper), ops[k]? = some o → listed.getD k false = true → ∀ e ∈ o.after, Region.binds .any e = true → listed.getD e.on false = true) → B w → (∀ i, listed.getD i false = true → A i (v i) w) →
      wpAny P .any ops Q fuel listed (putAll v 0 l a) w := by
  have hsz : ops.size = l.length + 1 := by have := congrArg List.length hops; simpa using this
  have pos : ∀ (listed : Array Bool), listed.size = ops.size → listed.getD l.length true = false → ∃ i, i ∈ Region.ready .any ops listed := by
    intro listed hs h0
    -- the least that has not come up
    have go : ∀ n i, i ≤ n → i < ops.size → listed.getD i true = false → ∃ i, i ∈ Region.ready .any ops listed := by
      intro n
      induction n with
      | zero =>
        intro i hi hi2 hu
        have : i = 0 := by omega
        subst this
        refine ⟨0, mem_ready.2 ⟨hu, ops[0], by simp [hi2], ?_⟩⟩
        intro e he' hb
        have := inTurn_get ops.toList 0 0 ops[0] ht (by simp [hi2]) e he' hb
        omega
      | succ n ih =>
        intro i hi hi2 hu
        by_cases hall : ∀ e ∈ ops[i].after, Region.binds .any e = true → listed.getD e.on false = true
        · exact ⟨i, mem_ready.2 ⟨hu, ops[i], by simp [hi2], hall⟩⟩
        · have : ∃ e, e ∈ ops[i].after ∧ Region.binds .any e = true ∧ ¬ listed.getD e.on false = true := by
            refine Classical.byContradiction (fun hno => hall (fun e h1 h2 => Classical.byContradiction (fun h3 => hno ⟨e, h1, h2, h3⟩)))
          obtain ⟨e, h1, h2, h3⟩ := this
          have h4 := inTurn_get ops.toList 0 i ops[i] ht (by simp [hi2]) e h1 h2
          refine ih e.on (by omega) (by omega) ?_
          have h5 : e.on < listed.size := by omega
          simp [h5] at h3 ⊢
          exact h3
    exact go l.length l.length (Nat.le_refl _) (by omega) h0
  intro fuel
  induction fuel with
  | zero =>
    intro listed v w hs hc h0 hdc hB hA
    exfalso
    obtain ⟨i, hi⟩ := pos listed hs h0
    have h3 : listed.toList.countP (fun b => !b) = 0 := by omega
    rw [List.countP_eq_zero] at h3
    have h2 : l.length < listed.size := by omega
    have h4 := h3 listed[l.length] (by simp)
    simp [h2] at h0
    simp [h0] at h4
  | succ fuel ih =>
    intro listed v w hs hc h0 hdc hB hA
    refine ⟨fun hr => ?_, fun i hi => ?_⟩
    · exfalso
      obtain ⟨i, hi⟩ := pos listed hs h0
      rw [hr] at hi
      cases hi
    obtain ⟨h1, o, ho, hall⟩ := mem_ready.1 hi
    have h2 : i < listed.size := by
      rcases Nat.lt_or_ge i listed.size with h' | h'
      · exact h'
      · simp [Array.getElem?_eq_none h'] at h1
    have ho' : ops.toList[i]? = some o := by simpa using ho
    by_cases hil : i = l.length
    · -- the last one: all others have come up
      subst hil
      have hol : o = ol := by rw [hops] at ho'; simpa using ho'.symm
      subst hol
      have allL : ∀ n j, l.length - j ≤ n → j < l.length → listed.getD j false = true := by
        intro n
        induction n with
        | zero => intro j hj hj2; omega
        | succ n ihn =>
          intro j hj hj2
          have hcj := List.all_eq_true.1 hcv j (List.mem_range.2 (by omega))
          rw [List.any_eq_true] at hcj
          obtain ⟨o', ho2, hp⟩ := hcj
          obtain ⟨s, hs1, hs2⟩ := List.getElem_of_mem ho2
          have hp' := mem_predsOf.1 (by simpa using hp)
          obtain ⟨e, he1, he2, he3⟩ := hp'
          have hso : ops.toList[s]? = some o' := by rw [List.getElem?_eq_getElem hs1, hs2]
          have hlt := inTurn_get ops.toList 0 s o' ht hso e he1 he2
          have hs3 : s < ops.size := by simpa using hs1
          by_cases hsl : s = l.length
          · subst hsl
            have hoo : o' = o := by rw [hso] at ho'; exact Option.some.inj ho'
            subst hoo
            rw [← he3]
            exact hall e he1 he2
          · have := ihn s (by omega) (by omega)
            rw [← he3]
            exact hdc s o' (by simpa using hso) this e he1 he2
      refine wpOp_step ho (fun K' hK => ?_)
      refine hl v w hB (fun j hj => hA j (allL _ j (Nat.le_refl _) hj)) K' ?_
      intro a' w' hq
      apply hK
      have hr : Region.ready .any ops (listed.setIfInBounds l.length true) = [] := by
        cases h : Region.ready .any ops (listed.setIfInBounds l.length true) with
        | nil => rfl
        | cons j r =>
          exfalso
          have hm : j ∈ Region.ready .any ops (listed.setIfInBounds l.length true) := by rw [h]; exact List.mem_cons_self ..
          obtain ⟨g1, oj, g2, _⟩ := mem_ready.1 hm
          have g3 : j < ops.size := by
            rcases Nat.lt_or_ge j ops.size with h' | h'
            · exact h'
            · simp [Array.getElem?_eq_none h'] at g2
          by_cases hjl : j = l.length
          · subst hjl; simp [h2] at g1
          · have g4 := allL _ j (Nat.le_refl _) (by omega)
            have g5 : j < listed.size := by omega
            simp [Ne.symm hjl, g5] at g1 g4
            rw [g1] at g4; cases g4
      cases fuel with
      | zero => exact ⟨hr, hq⟩
      | succ f => exact ⟨fun _ => hq, by rw [hr]; intro j hj; cases hj⟩
    · have hi3 : i < l.length := by omega
      have hol : l[i]? = some o := by rw [hops, List.getElem?_append_left hi3] at ho'; exact ho'
      have hE := eachOpsL_get R B A l l 0 i o he hol
      rw [Nat.zero_add] at hE
      refine wpOp_step ho (fun K' hK => ?_)
      refine hE v w hB (allOf_mem ?_) K' ?_
      · intro j hj
        obtain ⟨e, he1, he2, rfl⟩ := mem_predsOf.1 hj
        exact hA _ (hall e he1 he2)
      · intro u w' hR hB' hA'
        apply hK
        rw [putAll_put l 0 i o u v a hd hol, Nat.zero_add]
        have hget : ∀ k, k ≠ i → (listed.setIfInBounds i true).getD k false = listed.getD k false := by
          intro k hki
          simp [Ne.symm hki]
        refine ih _ _ w' (by simpa using hs) ?_ ?_ ?_ hB' ?_
        · have h5 : listed[i] = false := by simpa [h2] using h1
          have : (listed.setIfInBounds i true).toList = listed.toList.set i true := by simp
          rw [this, List.countP_set (by simpa using h2)]
          have h6 : 0 < listed.toList.countP (fun b => !b) := List.countP_pos_iff.2 ⟨false, by rw [← h5]; simp, rfl⟩
          simp only [Array.getElem_toList, h5, Bool.not_false, Bool.not_true, if_true]
          simp only [Bool.false_eq_true, if_false]
          omega
        · rw [← h0]; simp [hil]
        · intro k ok hk hlk e he1 he2
          by_cases hek : e.on = i
          · rw [hek]; simp [h2]
          · rw [hget _ hek]
            by_cases hki : k = i
            · subst hki
              have : ok = o := by rw [hk] at ho; exact Option.some.inj ho
              subst this
              exact hall e he1 he2
            · rw [hget _ hki] at hlk
              exact hdc k ok hk hlk e he1 he2
        · intro k hk
          by_cases hki : k = i
          · subst hki; simpa using hA'
          · simp only [hki, if_false]
            rw [hget _ hki] at hk
            exact hst _ _ _ _ hR (hA k hk)
theorem EachL.one {a : Act} {l0 : List Oper} {i : Nat} {o : Oper} {r : List Oper} (h : ∀ (v : Nat → Value) (w : World), B w → AllOf A v w (predsOf o) → ∀ K : Act → World → Prop, Shut (∀ u w', R w w' → B w' → A i u w' → K ((putAll v 0 l0 a).put o.dst u) w') →
    if Region.wanted o (yielded ops (putAll v 0 l0 a).tmps) = true then Oper.wp P o (putAll v 0 l0 a) w K Q else K ((putAll v 0 l0 a).put o.dst undef) w) (hr : EachOpsL P ops Q R B A a l0 (i + 1) r) : EachOpsL P ops Q R B A a l0 i (o :: r) :=
  ⟨fun v w hB hp K hK => h v w hB hp K hK, hr⟩
/-- A region that draws its order and ends in one operation that waits for all others, whatever it writes. -/
theorem wp_region_last3 {id : Nat} {a : Act} {w : World} (ol : Oper) (hol : ops.toList.getLast? = some ol) (l : List Oper) (hl0 : ops.toList.dropLast = l) (hm : P.follows .mixedOrders = true) (hd : dstsApart l = true) (ht : inTurn 0 ops.toList = true) (hcv : covered ops = true) (hst : ∀ k v w w', R w w' → A k v w → A k v w') (hB : B w.drew)
    (he : EachOpsL P ops Q R B A a l 0 l) (hl : ∀ v w, B w → (∀ i, i < ops.size - 1 → A i (v i) w) → ∀ K : Act → World → Prop, Shut (∀ a' w', Q .normal a' w' → K a' w') →
      if Region.wanted ol (yielded ops (putAll v 0 l a).tmps) = true then Oper.wp P ol (putAll v 0 l a) w K Q else K ((putAll v 0 l a).put ol.dst undef) w) : (Code.region id ops true).wp P Q a w := by
  have hops : ops.toList = l ++ [ol] := by
    obtain ⟨l', hl'⟩ := List.getLast?_eq_some_iff.1 hol
    rw [← hl0, hl']; simp
  have hsz : ops.size = l.length + 1 := by have := congrArg List.length hops; simpa using this
  have key := last_anyL R B A l ol hops hd ht hcv hst he (fun v w hB' hA K hK => hl v w hB' (fun j hj => hA j (by omega)) K hK) ops.size (Array.replicate ops.size false) (fun i => match l[i]? with | some o => (match o.dst with | some t => a.tmps.getD t undef | none => undef) | none => undef) w.drew (by simp) (by rw [Array.toList_replicate]; exact Nat.le_trans List.countP_le_length (by simp)) (by simp [hsz]) (by intro k o _ hk; by_cases h : k < ops.size <;> simp [h] at hk) hB (by intro i hi; by_cases h : i < ops.size <;> simp [h] at hi)
  rw [putAll_self a l 0 _ (by intro i o ho; simp only [Nat.zero_add, ho])] at key
  exact wp_region_held (S := fun _ => True) hm (wp_region_each.held_of_any key)
end

/-- A segment's options. -/
def sgO1 (m : Int) : List Int := if m = 0 then [] else [2, 4] ++ putL m 2
def sgO2 (hs : Bool) (sc : Int) : List Int := if hs then [1, 3, 3, sc] else []
def sgO3 (so : Bool) : List Int := if so then [1, 1, 4, 2] else []
def sgO4 (n : Nat) : List Int := if n = 0 then [] else [1, 1, 5, 2 + 8 * (n : Int)]
def sgO5 (z : List Int) : List Int := z.flatMap (fun x => putL x 4)
def segO (m : Int) (hs : Bool) (sc : Int) (so : Bool) (n : Nat) (z : List Int) : List Int := sgO1 m ++ sgO2 hs sc ++ sgO3 so ++ sgO4 n ++ sgO5 z
theorem sgO5_len (z : List Int) : (sgO5 z).length = 4 * z.length := by
  unfold sgO5
  induction z with
  | nil => rfl
  | cons a r ih => rw [List.flatMap_cons, List.length_append, ih, putL_len, List.length_cons]; omega
theorem sgO5_two (z : List Int) (k : Nat) (h : k * 2 + 1 < z.length) : sgO5 (z.take ((k + 1) * 2)) = sgO5 (z.take (k * 2)) ++ putL (z.getD (k * 2) 0) 4 ++ putL (z.getD (k * 2 + 1) 0) 4 := by
  have e1 : z.take ((k + 1) * 2) = z.take (k * 2) ++ [z.getD (k * 2) 0, z.getD (k * 2 + 1) 0] := by
    have h1 : k * 2 < z.length := by omega
    have g1 : z.getD (k * 2) 0 = z[k * 2] := by rw [List.getD_eq_getElem?_getD, List.getElem?_eq_getElem h1]; rfl
    have g2 : z.getD (k * 2 + 1) 0 = z[k * 2 + 1] := by rw [List.getD_eq_getElem?_getD, List.getElem?_eq_getElem h]; rfl
    rw [g1, g2, show (k + 1) * 2 = k * 2 + 1 + 1 by omega, ← List.take_append_getElem h, ← List.take_append_getElem h1, List.append_assoc]
    rfl
  unfold sgO5
  rw [e1, List.flatMap_append]
  simp
/-- The state between two options. -/
def OpS (w W : World) (vs : Array Value) (a0 : Option Addr) (z : List Int) (v : Value) (L : List Int) : Prop := OwnB W (w.heap.size + 1) v L ∧ Below w.heap.size w W ∧ HoldV W w.heap.size vs sgT ∧ ArrI W a0 z
theorem OpS.next {w W W' : World} {vs : Array Value} {a0 : Option Addr} {z : List Int} {v : Value} {L : List Int} (h : OpS w W vs a0 z v L) (hb : Below W.heap.size W W') : OpS w W' vs a0 z v L := ⟨h.1.nx hb, below_on h.2.1 hb, h.2.2.1.next hb, h.2.2.2.below hb (Nat.le_refl _)⟩
theorem OpS.put {w W : World} {vs : Array Value} {a0 : Option Addr} {z : List Int} {v u : Value} {L M : List Int} (h : OpS w W vs a0 z v L) (ho : OwnB W (w.heap.size + 1) u M) : OpS w W vs a0 z u M := ⟨ho, h.2⟩
/-- What each operation of a round leaves. -/
def A13 (N X b off k n0 c0 : Nat) (f t : Int) (L : List Int) : Nat → Value → World → Prop
  | 0, v, W => OwnB W N v L
  | 1, v, _ => v = .pointer (some ⟨X, 10, none⟩)
  | 2, v, _ => v = .slice (some ⟨b, off, none⟩) n0 c0
  | 3, v, _ => v = .int .i64 (k : Int)
  | 4, v, _ => v = .pointer (some ⟨b, off + k * 2, none⟩)
  | 5, v, _ => v = .pointer (some ⟨b, off + k * 2, none⟩)
  | 6, v, _ => v = .int .i64 f
  | 7, v, W => OwnB W N v (putL f 4)
  | 8, v, W => OwnB W N v (L ++ putL f 4)
  | 9, v, _ => v = .pointer (some ⟨X, 10, none⟩)
  | 10, v, _ => v = .slice (some ⟨b, off, none⟩) n0 c0
  | 11, v, _ => v = .int .i64 (k : Int)
  | 12, v, _ => v = .pointer (some ⟨b, off + k * 2, none⟩)
  | 13, v, _ => v = .pointer (some ⟨b, off + k * 2 + 1, none⟩)
  | 14, v, _ => v = .int .i64 t
  | 15, v, W => OwnB W N v (putL t 4)
  | 16, v, W => OwnB W N v (L ++ putL f 4 ++ putL t 4)
  | _, _, _ => True
theorem A13_kept {N X b off k n0 c0 : Nat} {f t : Int} {L : List Int} : ∀ (i : Nat) (v : Value) (W W2 : World), Below W.heap.size W W2 → A13 N X b off k n0 c0 f t L i v W → A13 N X b off k n0 c0 f t L i v W2 := by
  intro i v W W2 hb h
  unfold A13 at h ⊢
  split at h
  all_goals first
    | exact h
    | exact OwnB.nx h hb
set_option maxHeartbeats 8000000 in
theorem l11Options_walk (x0 x1 x2 x3 x4 x5 x6 : Int) (x7 : Bool) (x8 : Int) (x9 : Bool) (a0 : Option Addr) (n0 c0 : Nat) (a1 : Option Addr) (n1 c1 : Nat) (z : List Int) (w : World) (hz : z.length = n0 * 2) (ha : ArrI w a0 z) (h3 : n0 ≤ 3) (h6 : 0 ≤ x6) (h80 : 0 ≤ x8) (h81 : x8 ≤ 14) (hzb : ∀ q, q < z.length → 0 ≤ z.getD q 0) :
    Calls Tryd.prog 52 #[.agg #[.int .i64 x0, .int .i64 x1, .int .i64 x2, .int .i64 x3, .int .i64 x4, .int .i64 x5, .int .i64 x6, .bool x7, .int .i64 x8, .bool x9, .slice a0 n0 c0, .slice a1 n1 c1]] w fun e w' => ∃ r : Value, e = .returned r ∧ OwnB w' w.heap.size r (segO x6 x7 x8 x9 n0 z) ∧ Below w.heap.size w w' := by
  obtain ⟨hb2, hP, hQ⟩ := two_allocs w (.cells #[.int .i64 x0, .int .i64 x1, .int .i64 x2, .int .i64 x3, .int .i64 x4, .int .i64 x5, .int .i64 x6, .bool x7, .int .i64 x8, .bool x9, .slice a0 n0 c0, .slice a1 n1 c1] sgT) (.cells #[] 5)
  have hO : OwnB ((w.alloc (.cells #[.int .i64 x0, .int .i64 x1, .int .i64 x2, .int .i64 x3, .int .i64 x4, .int .i64 x5, .int .i64 x6, .bool x7, .int .i64 x8, .bool x9, .slice a0 n0 c0, .slice a1 n1 c1] sgT)).alloc (.cells #[] 5)) (w.heap.size + 1) (.slice (some ⟨w.heap.size + 1, 0, none⟩) 0 0) [] := by
    have h := World.ownsRow_lit (base := w.heap.size + 1) (e := 5) (size := 1) (w.alloc (.cells #[.int .i64 x0, .int .i64 x1, .int .i64 x2, .int .i64 x3, .int .i64 x4, .int .i64 x5, .int .i64 x6, .bool x7, .int .i64 x8, .bool x9, .slice a0 n0 c0, .slice a1 n1 c1] sgT)) #[] 0 (by rw [World.size_alloc]; omega) (by decide) rfl
    rw [World.size_alloc] at h
    exact ⟨h, by simp⟩
  have H0 : Hid (OpS w _ #[.int .i64 x0, .int .i64 x1, .int .i64 x2, .int .i64 x3, .int .i64 x4, .int .i64 x5, .int .i64 x6, .bool x7, .int .i64 x8, .bool x9, .slice a0 n0 c0, .slice a1 n1 c1] a0 z _ []) := hide ⟨hO, hb2, hP, ha.below hb2 (Nat.le_refl _)⟩
  have HZ := hide hz
  have HZB := hide hzb
  clear hb2 hP hQ hO hz ha hzb
  go_enter Tryd.func52, Tryd.ntmps52
  go_upto_region 2 with fail
  generalize ((w.alloc (.cells #[.int .i64 x0, .int .i64 x1, .int .i64 x2, .int .i64 x3, .int .i64 x4, .int .i64 x5, .int .i64 x6, .bool x7, .int .i64 x8, .bool x9, .slice a0 n0 c0, .slice a1 n1 c1] sgT)).alloc (.cells #[] 5)) = W0 at *
  generalize (Value.slice (some ⟨w.heap.size + 1, 0, none⟩) 0 0) = v0 at *
  have k6 := H0.out.2.2.1.cell 6 _ rfl
  go_upto_if 8 with fail
  go_cut [3] (fun s3 wx => Hid (OpS w wx #[.int .i64 x0, .int .i64 x1, .int .i64 x2, .int .i64 x3, .int .i64 x4, .int .i64 x5, .int .i64 x6, .bool x7, .int .i64 x8, .bool x9, .slice a0 n0 c0, .slice a1 n1 c1] a0 z s3 (sgO1 x6)))
  case first =>
    by_cases hx : x6 = 0
    · subst hx
      clear k6
      go_wp2_with fail
      go_meet
      exact H0
    · have hb6 : (x6 != 0) = true := by simp [hx]
      have hal : Below W0.heap.size W0 (W0.alloc (.cells #[.int .u8 2, .int .u8 4] 5)) := (Below.refl _ _).alloc (Nat.le_refl _) _
      have hsz : w.heap.size + 1 ≤ W0.heap.size := H0.out.2.2.1.lt
      have HL : Hid (OwnB (W0.alloc (.cells #[.int .u8 2, .int .u8 4] 5)) (w.heap.size + 1) (.slice (some ⟨W0.heap.size, 0, none⟩) 2 2) [2, 4]) := hide ((litb_own W0 [2, 4] (by intro y hy; simp at hy; omega) (by simp)).low hsz)
      have H1 := hide (H0.out.next hal)
      have CP : Hid (Calls Tryd.prog 54 #[.int .i64 x6, .int .i64 2] (W0.alloc (.cells #[.int .u8 2, .int .u8 4] 5)) fun e w2 => ∃ u : Value, e = .returned u ∧ OwnB w2 (W0.alloc (.cells #[.int .u8 2, .int .u8 4] 5)).heap.size u (putL x6 2) ∧ Below (W0.alloc (.cells #[.int .u8 2, .int .u8 4] 5)).heap.size (W0.alloc (.cells #[.int .u8 2, .int .u8 4] 5)) w2) := hide (l03Put_walk x6 2 _ h6 (by omega))
      have HX := hide hx
      clear hal hx k6
      have k6 := H1.out.2.2.1.cell 6 _ rfl
      go_wp2_with fail
      generalize W0.alloc (.cells #[.int .u8 2, .int .u8 4] 5) = W1 at *
      generalize W0.heap.size = q0 at *
      refine CP.out.mono ?_
      clear CP k6
      rintro e w2 ⟨u, rfl, ho, hb⟩
      have H2 := hide (H1.out.next hb)
      have HL2 := hide (HL.out.nx hb)
      have HU := hide ho
      have hsz2 := H2.out.2.2.1.lt
      clear hb ho
      go_wp2_with fail
      refine (l01Join_from _ u _ _ (w.heap.size + 1) [2, 4] (putL x6 2) w2 (by omega) HL2.out HU.out (by simp) (by rw [putL_len]; omega)).mono ?_
      rintro e w3 ⟨r, rfl, ho, hb⟩
      have H3 := hide ((H2.out.next hb).put ho)
      clear hb ho
      go_wp2_with fail
      go_meet
      have e : sgO1 x6 = [2, 4] ++ putL x6 2 := by unfold sgO1; rw [if_neg HX.out]
      rw [e]; exact H3
  case rest =>
  clear H0
  have HC := hcut
  clear hcut
  generalize hLL : (sgO1 x6) = LL at HC
  have HLL := hide hLL
  clear hLL
  have HLn : Hid (LL.length ≤ 100) := hide (by rw [← HLL.out]; unfold sgO1; split <;> simp [putL_len])
  have k7 := HC.out.2.2.1.cell 7 _ rfl; have k8 := HC.out.2.2.1.cell 8 _ rfl
  go_upto_if 15 with fail
  go_cut [3] (fun s3 wx => Hid (OpS w wx #[.int .i64 x0, .int .i64 x1, .int .i64 x2, .int .i64 x3, .int .i64 x4, .int .i64 x5, .int .i64 x6, .bool x7, .int .i64 x8, .bool x9, .slice a0 n0 c0, .slice a1 n1 c1] a0 z s3 (sgO1 x6 ++ sgO2 x7 x8)))
  case first =>
    rcases (show x7 = false ∨ x7 = true by cases x7 <;> simp) with h7 | h7
    · subst h7
      clear k7 k8
      go_wp2_with fail
      go_meet
      have e : sgO1 x6 ++ sgO2 false x8 = LL := by rw [← HLL.out]; simp [sgO2]
      rw [e]; exact HC
    · subst h7
      have hw8 : IntKind.u8.wrap x8 = x8 := by rw [IntKind.wrap_u8]; omega
      have hal : Below wc.heap.size wc (wc.alloc (.cells #[.int .u8 1, .int .u8 3, .int .u8 3, .int .u8 x8] 5)) := (Below.refl _ _).alloc (Nat.le_refl _) _
      have hsz : w.heap.size + 1 ≤ wc.heap.size := HC.out.2.2.1.lt
      have HL : Hid (OwnB (wc.alloc (.cells #[.int .u8 1, .int .u8 3, .int .u8 3, .int .u8 x8] 5)) (w.heap.size + 1) (.slice (some ⟨wc.heap.size, 0, none⟩) 4 4) [1, 3, 3, x8]) := hide ((litb_own wc [1, 3, 3, x8] (by intro y hy; simp at hy; omega) (by simp)).low hsz)
      have H1 := hide (HC.out.next hal)
      clear hal k7 k8
      have k7 := HC.out.2.2.1.cell 7 _ rfl; have k8 := HC.out.2.2.1.cell 8 _ rfl
      go_wp2_with fail
      clear k7 k8
      generalize wc.alloc (.cells #[.int .u8 1, .int .u8 3, .int .u8 3, .int .u8 x8] 5) = W1 at *
      generalize wc.heap.size = q0 at *
      have hsz2 := H1.out.2.2.1.lt
      refine (l01Join_from _ _ _ _ (w.heap.size + 1) LL [1, 3, 3, x8] W1 (by omega) H1.out.1 HL.out (by have := HLn.out; omega) (by simp)).mono ?_
      rintro e w3 ⟨r, rfl, ho, hb⟩
      have H3 := hide ((H1.out.next hb).put ho)
      clear hb ho
      go_wp2_with fail
      go_meet
      have e : sgO1 x6 ++ sgO2 true x8 = LL ++ [1, 3, 3, x8] := by rw [← HLL.out]; simp [sgO2]
      rw [e]; exact H3
  case rest =>
  have HC := hcut
  clear hcut
  generalize hLL : (sgO1 x6 ++ sgO2 x7 x8) = LL at HC
  have HLL := hide hLL
  clear hLL
  have HLn : Hid (LL.length ≤ 100) := hide (by rw [← HLL.out]; unfold sgO1 sgO2; (repeat' split) <;> simp [putL_len])
  have k9 := HC.out.2.2.1.cell 9 _ rfl
  go_upto_if 23 with fail
  go_cut [3] (fun s3 wx => Hid (OpS w wx #[.int .i64 x0, .int .i64 x1, .int .i64 x2, .int .i64 x3, .int .i64 x4, .int .i64 x5, .int .i64 x6, .bool x7, .int .i64 x8, .bool x9, .slice a0 n0 c0, .slice a1 n1 c1] a0 z s3 (sgO1 x6 ++ sgO2 x7 x8 ++ sgO3 x9)))
  case first =>
    rcases (show x9 = false ∨ x9 = true by cases x9 <;> simp) with h9 | h9
    · subst h9
      clear k9
      go_wp2_with fail
      go_meet
      have e : sgO1 x6 ++ sgO2 x7 x8 ++ sgO3 false = LL := by rw [← HLL.out]; simp [sgO3]
      rw [e]; exact HC
    · subst h9
      have hal : Below wc.heap.size wc (wc.alloc (.cells #[.int .u8 1, .int .u8 1, .int .u8 4, .int .u8 2] 5)) := (Below.refl _ _).alloc (Nat.le_refl _) _
      have hsz : w.heap.size + 1 ≤ wc.heap.size := HC.out.2.2.1.lt
      have HL : Hid (OwnB (wc.alloc (.cells #[.int .u8 1, .int .u8 1, .int .u8 4, .int .u8 2] 5)) (w.heap.size + 1) (.slice (some ⟨wc.heap.size, 0, none⟩) 4 4) [1, 1, 4, 2]) := hide ((litb_own wc [1, 1, 4, 2] (by intro y hy; simp at hy; omega) (by simp)).low hsz)
      have H1 := hide (HC.out.next hal)
      clear hal k9
      have k9 := HC.out.2.2.1.cell 9 _ rfl
      go_wp2_with fail
      clear k9
      generalize wc.alloc (.cells #[.int .u8 1, .int .u8 1, .int .u8 4, .int .u8 2] 5) = W1 at *
      generalize wc.heap.size = q0 at *
      have hsz2 := H1.out.2.2.1.lt
      refine (l01Join_from _ _ _ _ (w.heap.size + 1) LL [1, 1, 4, 2] W1 (by omega) H1.out.1 HL.out (by have := HLn.out; omega) (by simp)).mono ?_
      rintro e w3 ⟨r, rfl, ho, hb⟩
      have H3 := hide ((H1.out.next hb).put ho)
      clear hb ho
      go_wp2_with fail
      go_meet
      have e : sgO1 x6 ++ sgO2 x7 x8 ++ sgO3 true = LL ++ [1, 1, 4, 2] := by rw [← HLL.out]; simp [sgO3]
      rw [e]; exact H3
  case rest =>
  have HC := hcut
  clear hcut
  generalize hLL : (sgO1 x6 ++ sgO2 x7 x8 ++ sgO3 x9) = LL at HC
  have HLL := hide hLL
  clear hLL
  have HLn : Hid (LL.length ≤ 100) := hide (by rw [← HLL.out]; unfold sgO1 sgO2 sgO3; (repeat' split) <;> simp [putL_len])
  have k10 := HC.out.2.2.1.cell 10 _ rfl
  go_upto_if 30 with fail
  go_cut [3] (fun s3 wx => Hid (OpS w wx #[.int .i64 x0, .int .i64 x1, .int .i64 x2, .int .i64 x3, .int .i64 x4, .int .i64 x5, .int .i64 x6, .bool x7, .int .i64 x8, .bool x9, .slice a0 n0 c0, .slice a1 n1 c1] a0 z s3 (sgO1 x6 ++ sgO2 x7 x8 ++ sgO3 x9 ++ sgO4 n0)))
  case first =>
    by_cases hn0 : n0 = 0
    · subst hn0
      clear k10
      go_wp2_with fail
      go_meet
      have e : sgO1 x6 ++ sgO2 x7 x8 ++ sgO3 x9 ++ sgO4 0 = LL := by rw [← HLL.out]; simp [sgO4]
      rw [e]; exact HC
    · have hn1 : (0 : Int) < (n0 : Int) := by omega
      have hw1 : IntKind.i64.wrap (8 * (n0 : Int)) = 8 * (n0 : Int) := by rw [IntKind.wrap_i64]; omega
      have hw2 : IntKind.i64.wrap (2 + 8 * (n0 : Int)) = 2 + 8 * (n0 : Int) := by rw [IntKind.wrap_i64]; omega
      have hw3 : IntKind.u8.wrap (2 + 8 * (n0 : Int)) = 2 + 8 * (n0 : Int) := by rw [IntKind.wrap_u8]; omega
      have hal : Below wc.heap.size wc (wc.alloc (.cells #[.int .u8 1, .int .u8 1, .int .u8 5, .int .u8 (2 + 8 * (n0 : Int))] 5)) := (Below.refl _ _).alloc (Nat.le_refl _) _
      have hsz : w.heap.size + 1 ≤ wc.heap.size := HC.out.2.2.1.lt
      have HL : Hid (OwnB (wc.alloc (.cells #[.int .u8 1, .int .u8 1, .int .u8 5, .int .u8 (2 + 8 * (n0 : Int))] 5)) (w.heap.size + 1) (.slice (some ⟨wc.heap.size, 0, none⟩) 4 4) [1, 1, 5, 2 + 8 * (n0 : Int)]) := hide ((litb_own wc [1, 1, 5, 2 + 8 * (n0 : Int)] (by intro y hy; simp at hy; omega) (by simp)).low hsz)
      have H1 := hide (HC.out.next hal)
      clear hal k10
      have k10 := HC.out.2.2.1.cell 10 _ rfl
      go_wp2_with fail
      clear k10
      generalize wc.alloc (.cells #[.int .u8 1, .int .u8 1, .int .u8 5, .int .u8 (2 + 8 * (n0 : Int))] 5) = W1 at *
      generalize wc.heap.size = q0 at *
      have hsz2 := H1.out.2.2.1.lt
      refine (l01Join_from _ _ _ _ (w.heap.size + 1) LL [1, 1, 5, 2 + 8 * (n0 : Int)] W1 (by omega) H1.out.1 HL.out (by have := HLn.out; omega) (by simp)).mono ?_
      rintro e w3 ⟨r, rfl, ho, hb⟩
      have H3 := hide ((H1.out.next hb).put ho)
      clear hb ho
      go_wp2_with fail
      go_meet
      have e : sgO1 x6 ++ sgO2 x7 x8 ++ sgO3 x9 ++ sgO4 n0 = LL ++ [1, 1, 5, 2 + 8 * (n0 : Int)] := by rw [← HLL.out]; simp [sgO4, hn0]
      rw [e]; exact H3
  case rest =>
  have HC := hcut
  clear hcut
  generalize hLL : (sgO1 x6 ++ sgO2 x7 x8 ++ sgO3 x9 ++ sgO4 n0) = LL at HC
  have HE : Hid (segO x6 x7 x8 x9 n0 z = LL ++ sgO5 z) := hide (by unfold segO; rw [hLL])
  have HLn : Hid (LL.length ≤ 100) := hide (by rw [← hLL]; unfold sgO1 sgO2 sgO3 sgO4; (repeat' split) <;> simp [putL_len])
  clear hLL
  go_wp2_with fail
  go_loopw [3, 4] (fun o t w2 => ∃ k : Nat, k ≤ n0 ∧ t = .int .i64 (k : Int) ∧ Hid (OpS w w2 #[.int .i64 x0, .int .i64 x1, .int .i64 x2, .int .i64 x3, .int .i64 x4, .int .i64 x5, .int .i64 x6, .bool x7, .int .i64 x8, .bool x9, .slice a0 n0 c0, .slice a1 n1 c1] a0 z o (LL ++ sgO5 (z.take (k * 2))))) (fun _ t _ => n0 - (intOf t).toNat)
  case atStart => exact ⟨0, Nat.zero_le _, rfl, hide (by simp [sgO5]; exact HC.out)⟩
  case round =>
    obtain ⟨k, hk, rfl, HK⟩ := hrel
    have k10 := HK.out.2.2.1.cell 10 _ rfl
    by_cases hlt : k < n0
    · have hz0 := HZ.out
      obtain ⟨b, off, rfl, hb1, hc1⟩ := HK.out.2.2.2 (k * 2) (by omega)
      have hf0 := HZB.out (k * 2) (by omega)
      have ht0 := HZB.out (k * 2 + 1) (by omega)
      have HG : Hid (∀ W, ArrI W (some ⟨b, off, none⟩) z → W.cell? ⟨b, off + k * 2, none⟩ = some (.int .i64 (z.getD (k * 2) 0)) ∧ W.cell? ⟨b, off + k * 2 + 1, none⟩ = some (.int .i64 (z.getD (k * 2 + 1) 0))) := hide (fun W h => by
        obtain ⟨b2, o2, e2, _, c2⟩ := h (k * 2) (by omega)
        obtain ⟨b3, o3, e3, _, c3⟩ := h (k * 2 + 1) (by omega)
        injection e2 with e2; injection e2 with p1 p2; subst p1 p2
        injection e3 with e3; injection e3 with p1 p2; subst p1 p2
        exact ⟨c2, c3⟩)
      have HT := hide (sgO5_two z k (by omega))
      have hLL1 : (LL ++ sgO5 (z.take (k * 2))).length ≤ 200 := by rw [List.length_append, sgO5_len, List.length_take]; have := HLn.out; omega
      have HL1 := hide hLL1
      clear hc1 hLL1 hz0
      generalize z.getD (k * 2) 0 = f at *
      generalize z.getD (k * 2 + 1) 0 = t at *
      generalize hL1 : LL ++ sgO5 (z.take (k * 2)) = L1 at *
      have HL1e := hide hL1
      clear hL1
      go_upto_region 13 with fail
      refine wp_region_last3 (fun W W2 => Below W.heap.size W W2) (fun W => OpS w W #[.int .i64 x0, .int .i64 x1, .int .i64 x2, .int .i64 x3, .int .i64 x4, .int .i64 x5, .int .i64 x6, .bool x7, .int .i64 x8, .bool x9, .slice (some ⟨b, off, none⟩) n0 c0, .slice a1 n1 c1] (some ⟨b, off, none⟩) z u3 L1) (A13 (w.heap.size + 1) w.heap.size b off k n0 c0 f t L1) _ rfl _ rfl (by kernel_rfl) (by kernel_rfl) (by kernel_rfl) (by kernel_rfl) A13_kept (HK.out.next (Below.refl _ _).drew) ?_ ?_
      rotate_left
      rotate_right
      simp only [List.dropLast]
      refine EachL.one _ _ _ ?_ ?_
      · intro v W hB hp KK hKK
        rw [if_pos (by rfl)]
        have hp1 : AllOf (A13 (w.heap.size + 1) w.heap.size b off k n0 c0 f t L1) v W [] := hp
        clear hp
        simp only [putAll, Act.put, List.setIfInBounds_toArray, List.set_cons_zero, List.set_cons_succ, Nat.reduceAdd] at hKK ⊢
        have HBB := hide hB
        clear hB
        go_simp
        refine hKK _ _ (Below.refl _ _) HBB.out ?_
        exact HBB.out.1
      refine EachL.one _ _ _ ?_ ?_
      · intro v W hB hp KK hKK
        rw [if_pos (by rfl)]
        have hp1 : AllOf (A13 (w.heap.size + 1) w.heap.size b off k n0 c0 f t L1) v W [] := hp
        clear hp
        simp only [putAll, Act.put, List.setIfInBounds_toArray, List.set_cons_zero, List.set_cons_succ, Nat.reduceAdd] at hKK ⊢
        have HBB := hide hB
        clear hB
        go_simp
        refine hKK _ _ (Below.refl _ _) HBB.out ?_
        rfl
      refine EachL.one _ _ _ ?_ ?_
      · intro v W hB hp KK hKK
        rw [if_pos (by rfl)]
        have hp1 : AllOf (A13 (w.heap.size + 1) w.heap.size b off k n0 c0 f t L1) v W [1] := hp
        clear hp
        simp only [putAll, Act.put, List.setIfInBounds_toArray, List.set_cons_zero, List.set_cons_succ, Nat.reduceAdd] at hKK ⊢
        obtain ⟨p1, _⟩ := hp1
        have e1 : v 1 = .pointer (some ⟨w.heap.size, 10, none⟩) := p1
        simp only [e1] at hKK ⊢
        clear p1 e1
        have HBB := hide hB
        clear hB
        have k10 := HBB.out.2.2.1.cell 10 _ rfl
        go_simp
        refine hKK _ _ (Below.refl _ _) HBB.out ?_
        rfl
      refine EachL.one _ _ _ ?_ ?_
      · intro v W hB hp KK hKK
        rw [if_pos (by rfl)]
        have hp1 : AllOf (A13 (w.heap.size + 1) w.heap.size b off k n0 c0 f t L1) v W [] := hp
        clear hp
        simp only [putAll, Act.put, List.setIfInBounds_toArray, List.set_cons_zero, List.set_cons_succ, Nat.reduceAdd] at hKK ⊢
        have HBB := hide hB
        clear hB
        go_simp
        refine hKK _ _ (Below.refl _ _) HBB.out ?_
        rfl
      refine EachL.one _ _ _ ?_ ?_
      · intro v W hB hp KK hKK
        rw [if_pos (by rfl)]
        have hp1 : AllOf (A13 (w.heap.size + 1) w.heap.size b off k n0 c0 f t L1) v W [2, 3] := hp
        clear hp
        simp only [putAll, Act.put, List.setIfInBounds_toArray, List.set_cons_zero, List.set_cons_succ, Nat.reduceAdd] at hKK ⊢
        obtain ⟨p2, p3, _⟩ := hp1
        have e2 : v 2 = .slice (some ⟨b, off, none⟩) n0 c0 := p2
        have e3 : v 3 = .int .i64 (k : Int) := p3
        simp only [e2, e3] at hKK ⊢
        clear p2 p3 e2 e3
        have HBB := hide hB
        clear hB
        go_simp
        refine hKK _ _ (Below.refl _ _) HBB.out ?_
        rfl
      refine EachL.one _ _ _ ?_ ?_
      · intro v W hB hp KK hKK
        rw [if_pos (by rfl)]
        have hp1 : AllOf (A13 (w.heap.size + 1) w.heap.size b off k n0 c0 f t L1) v W [4] := hp
        clear hp
        simp only [putAll, Act.put, List.setIfInBounds_toArray, List.set_cons_zero, List.set_cons_succ, Nat.reduceAdd] at hKK ⊢
        obtain ⟨p4, _⟩ := hp1
        have e4 : v 4 = .pointer (some ⟨b, off + k * 2, none⟩) := p4
        simp only [e4] at hKK ⊢
        clear p4 e4
        have HBB := hide hB
        clear hB
        go_simp
        refine hKK _ _ (Below.refl _ _) HBB.out ?_
        rfl
      refine EachL.one _ _ _ ?_ ?_
      · intro v W hB hp KK hKK
        rw [if_pos (by rfl)]
        have hp1 : AllOf (A13 (w.heap.size + 1) w.heap.size b off k n0 c0 f t L1) v W [5] := hp
        clear hp
        simp only [putAll, Act.put, List.setIfInBounds_toArray, List.set_cons_zero, List.set_cons_succ, Nat.reduceAdd] at hKK ⊢
        obtain ⟨p5, _⟩ := hp1
        have e5 : v 5 = .pointer (some ⟨b, off + k * 2, none⟩) := p5
        simp only [e5] at hKK ⊢
        clear p5 e5
        have HBB := hide hB
        clear hB
        have hg := (HG.out W HBB.out.2.2.2).1
        go_simp
        refine hKK _ _ (Below.refl _ _) HBB.out ?_
        rfl
      refine EachL.one _ _ _ ?_ ?_
      · intro v W hB hp KK hKK
        rw [if_pos (by rfl)]
        have hp1 : AllOf (A13 (w.heap.size + 1) w.heap.size b off k n0 c0 f t L1) v W [6] := hp
        clear hp
        simp only [putAll, Act.put, List.setIfInBounds_toArray, List.set_cons_zero, List.set_cons_succ, Nat.reduceAdd] at hKK ⊢
        obtain ⟨p6, _⟩ := hp1
        have e6 : v 6 = .int .i64 f := p6
        simp only [e6] at hKK ⊢
        clear p6 e6
        have HBB := hide hB
        clear hB
        have CP : Calls Tryd.prog 54 #[.int .i64 f, .int .i64 4] W fun e w2 => ∃ u : Value, e = .returned u ∧ OwnB w2 W.heap.size u (putL f 4) ∧ Below W.heap.size W w2 := l03Put_walk f 4 _ hf0 (by omega)
        go_simp
        refine CP.mono ?_
        clear CP
        rintro e w2 ⟨u, rfl, ho, hb⟩
        go_simp
        refine hKK _ _ hb (HBB.out.next hb) ?_
        exact ho.low (by have := HBB.out.2.2.1.lt; omega)
      refine EachL.one _ _ _ ?_ ?_
      · intro v W hB hp KK hKK
        rw [if_pos (by rfl)]
        have hp1 : AllOf (A13 (w.heap.size + 1) w.heap.size b off k n0 c0 f t L1) v W [0, 7, 7] := hp
        clear hp
        simp only [putAll, Act.put, List.setIfInBounds_toArray, List.set_cons_zero, List.set_cons_succ, Nat.reduceAdd] at hKK ⊢
        obtain ⟨p0, p7, _, _⟩ := hp1
        have o0 : OwnB W (w.heap.size + 1) (v 0) (L1) := p0
        have o7 : OwnB W (w.heap.size + 1) (v 7) (putL f 4) := p7
        clear p0 p7 
        have HBB := hide hB
        clear hB
        have HA_ := hide o0; have HB_ := hide o7
        clear o0 o7
        go_simp
        refine (l01Join_from _ _ _ _ (w.heap.size + 1) (L1) (putL f 4) W (by have := HBB.out.2.2.1.lt; omega) HA_.out HB_.out (by have := HL1.out; first | omega | (rw [List.length_append, putL_len]; omega)) (by rw [putL_len]; omega)).mono ?_
        rintro e w2 ⟨r, rfl, ho, hb⟩
        go_simp
        refine hKK _ _ hb (HBB.out.next hb) ?_
        exact ho
      refine EachL.one _ _ _ ?_ ?_
      · intro v W hB hp KK hKK
        rw [if_pos (by rfl)]
        have hp1 : AllOf (A13 (w.heap.size + 1) w.heap.size b off k n0 c0 f t L1) v W [] := hp
        clear hp
        simp only [putAll, Act.put, List.setIfInBounds_toArray, List.set_cons_zero, List.set_cons_succ, Nat.reduceAdd] at hKK ⊢
        have HBB := hide hB
        clear hB
        go_simp
        refine hKK _ _ (Below.refl _ _) HBB.out ?_
        rfl
      refine EachL.one _ _ _ ?_ ?_
      · intro v W hB hp KK hKK
        rw [if_pos (by rfl)]
        have hp1 : AllOf (A13 (w.heap.size + 1) w.heap.size b off k n0 c0 f t L1) v W [9] := hp
        clear hp
        simp only [putAll, Act.put, List.setIfInBounds_toArray, List.set_cons_zero, List.set_cons_succ, Nat.reduceAdd] at hKK ⊢
        obtain ⟨p9, _⟩ := hp1
        have e9 : v 9 = .pointer (some ⟨w.heap.size, 10, none⟩) := p9
        simp only [e9] at hKK ⊢
        clear p9 e9
        have HBB := hide hB
        clear hB
        have k10 := HBB.out.2.2.1.cell 10 _ rfl
        go_simp
        refine hKK _ _ (Below.refl _ _) HBB.out ?_
        rfl
      refine EachL.one _ _ _ ?_ ?_
      · intro v W hB hp KK hKK
        rw [if_pos (by rfl)]
        have hp1 : AllOf (A13 (w.heap.size + 1) w.heap.size b off k n0 c0 f t L1) v W [] := hp
        clear hp
        simp only [putAll, Act.put, List.setIfInBounds_toArray, List.set_cons_zero, List.set_cons_succ, Nat.reduceAdd] at hKK ⊢
        have HBB := hide hB
        clear hB
        go_simp
        refine hKK _ _ (Below.refl _ _) HBB.out ?_
        rfl
      refine EachL.one _ _ _ ?_ ?_
      · intro v W hB hp KK hKK
        rw [if_pos (by rfl)]
        have hp1 : AllOf (A13 (w.heap.size + 1) w.heap.size b off k n0 c0 f t L1) v W [10, 11] := hp
        clear hp
        simp only [putAll, Act.put, List.setIfInBounds_toArray, List.set_cons_zero, List.set_cons_succ, Nat.reduceAdd] at hKK ⊢
        obtain ⟨p10, p11, _⟩ := hp1
        have e10 : v 10 = .slice (some ⟨b, off, none⟩) n0 c0 := p10
        have e11 : v 11 = .int .i64 (k : Int) := p11
        simp only [e10, e11] at hKK ⊢
        clear p10 p11 e10 e11
        have HBB := hide hB
        clear hB
        go_simp
        refine hKK _ _ (Below.refl _ _) HBB.out ?_
        rfl
      refine EachL.one _ _ _ ?_ ?_
      · intro v W hB hp KK hKK
        rw [if_pos (by rfl)]
        have hp1 : AllOf (A13 (w.heap.size + 1) w.heap.size b off k n0 c0 f t L1) v W [12] := hp
        clear hp
        simp only [putAll, Act.put, List.setIfInBounds_toArray, List.set_cons_zero, List.set_cons_succ, Nat.reduceAdd] at hKK ⊢
        obtain ⟨p12, _⟩ := hp1
        have e12 : v 12 = .pointer (some ⟨b, off + k * 2, none⟩) := p12
        simp only [e12] at hKK ⊢
        clear p12 e12
        have HBB := hide hB
        clear hB
        go_simp
        refine hKK _ _ (Below.refl _ _) HBB.out ?_
        rfl
      refine EachL.one _ _ _ ?_ ?_
      · intro v W hB hp KK hKK
        rw [if_pos (by rfl)]
        have hp1 : AllOf (A13 (w.heap.size + 1) w.heap.size b off k n0 c0 f t L1) v W [13] := hp
        clear hp
        simp only [putAll, Act.put, List.setIfInBounds_toArray, List.set_cons_zero, List.set_cons_succ, Nat.reduceAdd] at hKK ⊢
        obtain ⟨p13, _⟩ := hp1
        have e13 : v 13 = .pointer (some ⟨b, off + k * 2 + 1, none⟩) := p13
        simp only [e13] at hKK ⊢
        clear p13 e13
        have HBB := hide hB
        clear hB
        have hg := (HG.out W HBB.out.2.2.2).2
        go_simp
        refine hKK _ _ (Below.refl _ _) HBB.out ?_
        rfl
      refine EachL.one _ _ _ ?_ ?_
      · intro v W hB hp KK hKK
        rw [if_pos (by rfl)]
        have hp1 : AllOf (A13 (w.heap.size + 1) w.heap.size b off k n0 c0 f t L1) v W [14, 8] := hp
        clear hp
        simp only [putAll, Act.put, List.setIfInBounds_toArray, List.set_cons_zero, List.set_cons_succ, Nat.reduceAdd] at hKK ⊢
        obtain ⟨p14, p8, _⟩ := hp1
        have e14 : v 14 = .int .i64 t := p14
        have o8 : OwnB W (w.heap.size + 1) (v 8) (L1 ++ putL f 4) := p8
        simp only [e14] at hKK ⊢
        clear p14 p8 e14
        have HBB := hide hB
        clear hB
        have CP : Calls Tryd.prog 54 #[.int .i64 t, .int .i64 4] W fun e w2 => ∃ u : Value, e = .returned u ∧ OwnB w2 W.heap.size u (putL t 4) ∧ Below W.heap.size W w2 := l03Put_walk t 4 _ ht0 (by omega)
        go_simp
        refine CP.mono ?_
        clear CP
        rintro e w2 ⟨u, rfl, ho, hb⟩
        go_simp
        refine hKK _ _ hb (HBB.out.next hb) ?_
        exact ho.low (by have := HBB.out.2.2.1.lt; omega)
      refine EachL.one _ _ _ ?_ ?_
      · intro v W hB hp KK hKK
        rw [if_pos (by rfl)]
        have hp1 : AllOf (A13 (w.heap.size + 1) w.heap.size b off k n0 c0 f t L1) v W [8, 15, 15] := hp
        clear hp
        simp only [putAll, Act.put, List.setIfInBounds_toArray, List.set_cons_zero, List.set_cons_succ, Nat.reduceAdd] at hKK ⊢
        obtain ⟨p8, p15, _, _⟩ := hp1
        have o8 : OwnB W (w.heap.size + 1) (v 8) (L1 ++ putL f 4) := p8
        have o15 : OwnB W (w.heap.size + 1) (v 15) (putL t 4) := p15
        clear p8 p15 
        have HBB := hide hB
        clear hB
        have HA_ := hide o8; have HB_ := hide o15
        clear o8 o15
        go_simp
        refine (l01Join_from _ _ _ _ (w.heap.size + 1) (L1 ++ putL f 4) (putL t 4) W (by have := HBB.out.2.2.1.lt; omega) HA_.out HB_.out (by have := HL1.out; first | omega | (rw [List.length_append, putL_len]; omega)) (by rw [putL_len]; omega)).mono ?_
        rintro e w2 ⟨r, rfl, ho, hb⟩
        go_simp
        refine hKK _ _ hb (HBB.out.next hb) ?_
        exact ho
      · exact trivial
      intro v W hB hA KK hKK
      rw [if_pos (by rfl)]
      simp only [List.dropLast, putAll, Act.put, List.setIfInBounds_toArray, List.set_cons_zero, List.set_cons_succ, Nat.reduceAdd]
      have p16 : A13 (w.heap.size + 1) w.heap.size b off k n0 c0 f t L1 16 (v 16) W := hA 16 (by decide)
      have o16 : OwnB W (w.heap.size + 1) (v 16) (L1 ++ putL f 4 ++ putL t 4) := p16
      clear hA p16
      generalize v 0 = y0; generalize v 1 = y1; generalize v 2 = y2; generalize v 3 = y3; generalize v 4 = y4; generalize v 5 = y5; generalize v 6 = y6; generalize v 7 = y7; generalize v 8 = y8; generalize v 9 = y9; generalize v 10 = y10; generalize v 11 = y11; generalize v 12 = y12; generalize v 13 = y13; generalize v 14 = y14; generalize v 15 = y15
      generalize v 16 = r at *
      have HN : Hid (OpS w W #[.int .i64 x0, .int .i64 x1, .int .i64 x2, .int .i64 x3, .int .i64 x4, .int .i64 x5, .int .i64 x6, .bool x7, .int .i64 x8, .bool x9, .slice (some ⟨b, off, none⟩) n0 c0, .slice a1 n1 c1] (some ⟨b, off, none⟩) z r (LL ++ sgO5 (z.take ((k + 1) * 2)))) := hide (by rw [HT.out, ← List.append_assoc, ← List.append_assoc, HL1e.out]; exact hB.put o16)
      clear hB o16
      go_simp
      refine hKK _ _ ?_
      clear hKK
      go_wp2_with fail
      exact ⟨⟨k + 1, by omega, by go_num, HN⟩, by simp [intOf]; omega⟩
    · have hkn : k = n0 := by omega
      subst hkn
      have e1 : z.take (k * 2) = z := List.take_of_length_le (by have := HZ.out; omega)
      rw [e1] at HK
      clear e1
      go_wp2_with fail
      go_ret
      exact ⟨_, rfl, by rw [HE.out]; exact HK.out.1.low (by omega), HK.out.2.1⟩
end Go.Proofs.YthcmgnhfgplajaaDoor
