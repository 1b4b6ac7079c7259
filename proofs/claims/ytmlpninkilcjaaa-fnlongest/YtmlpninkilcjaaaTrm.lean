/-
Contracts of functions of this seat.
-/
import Derived.Test.YtmlpninkilcjaaaRows
import Derived.WalkKit
import Derived.ProofKit
import Derived.OpenShut
import Derived.Test.YtmlpninkilcjaaaRok
import Derived.Test.YtmlpninkilcjaaaPri
import Derived.Shelf.Small.Bits
import Derived.Shelf.Strings.Search1
namespace Go.Proofs.Ytmlpninkilcjaaa
open Go.ChangeShapes Go.WideShapes Go.ChangeAt Go.RowKit
set_option linter.unusedVariables false
set_option maxRecDepth 100000
def Try.lays133_ren : Go.Shelf.Ren := ⟨fun | 133 => 87 | 128 => 92 | n => n, fun | 51 => 127 | 3 => 3 | 4 => 4 | 46 => 84 | 5 => 5 | 9 => 9 | n => n, fun | n => n⟩
theorem Try.lays133 : Go.Proofs.Lays.n133 Try.prog Try.lays133_ren := {
  mixed := by kernel_rfl
  f128 := Try.func92.trans (congrArg some (by kernel_rfl))
  f133 := Try.func87.trans (congrArg some (by kernel_rfl))
  t3 := Try.underlying3
  a3 := Try.isAgg3
  z3 := Try.sizeOf3
  v3 := Try.zeroValue3
  t4 := Try.underlying4
  a4 := Try.isAgg4
  z4 := Try.sizeOf4
  v4 := Try.zeroValue4
  t5 := Try.underlying5
  a5 := Try.isAgg5
  z5 := Try.sizeOf5
  v5 := Try.zeroValue5
  t9 := Try.underlying9
  a9 := Try.isAgg9
  z9 := Try.sizeOf9
  v9 := Try.zeroValue9
  t46 := Try.underlying84
  a46 := Try.isAgg84
  z46 := Try.sizeOf84
  v46 := Try.zeroValue84
  t51 := Try.underlying127
  a51 := Try.isAgg127
  z51 := Try.sizeOf127
  v51 := Try.zeroValue127 }
def Try.lays128_ren : Go.Shelf.Ren := ⟨fun | 128 => 92 | n => n, fun | 51 => 127 | 3 => 3 | 4 => 4 | 46 => 84 | 5 => 5 | 9 => 9 | n => n, fun | n => n⟩
theorem Try.lays128 : Go.Proofs.Lays.n128 Try.prog Try.lays128_ren := {
  mixed := by kernel_rfl
  f128 := Try.func92.trans (congrArg some (by kernel_rfl))
  t3 := Try.underlying3
  a3 := Try.isAgg3
  z3 := Try.sizeOf3
  v3 := Try.zeroValue3
  t4 := Try.underlying4
  a4 := Try.isAgg4
  z4 := Try.sizeOf4
  v4 := Try.zeroValue4
  t5 := Try.underlying5
  a5 := Try.isAgg5
  z5 := Try.sizeOf5
  v5 := Try.zeroValue5
  t9 := Try.underlying9
  a9 := Try.isAgg9
  z9 := Try.sizeOf9
  v9 := Try.zeroValue9
  t46 := Try.underlying84
  a46 := Try.isAgg84
  z46 := Try.sizeOf84
  v46 := Try.zeroValue84
  t51 := Try.underlying127
  a51 := Try.isAgg127
  z51 := Try.sizeOf127
  v51 := Try.zeroValue127 }

theorem xor_lt {a b : Nat} (ha : a < 4294967296) (hb : b < 4294967296) : a ^^^ b < 4294967296 := Nat.xor_lt_two_pow (n := 32) ha hb
theorem xor_bits (k : IntKind) (hk : 32 ≤ k.bits) (hw : ∀ n : Int, 0 ≤ n → n < 4294967296 → k.wrap n = n) (a b : Nat) (ha : a < 4294967296) (hb : b < 4294967296) :
    bits .xor k (a : Int) (b : Int) = ((a ^^^ b : Nat) : Int) := by
  have hp : 2 ^ 32 ≤ 2 ^ k.bits := Nat.pow_le_pow_right (by decide) hk
  have ha' : a % 2 ^ k.bits = a := Nat.mod_eq_of_lt (by omega)
  have hb' : b % 2 ^ k.bits = b := Nat.mod_eq_of_lt (by omega)
  simp only [bits, BitVec.ofInt_natCast, BitVec.toNat_xor, BitVec.toNat_ofNat, ha', hb']
  exact hw _ (Int.natCast_nonneg _) (by have := xor_lt ha hb; omega)
theorem xor_i64 (a b : Nat) (ha : a < 4294967296) (hb : b < 4294967296) : bits .xor .i64 (a : Int) (b : Int) = ((a ^^^ b : Nat) : Int) :=
  xor_bits .i64 (by decide) (fun n h0 h1 => wrap_i64' n h0 (by omega)) a b ha hb

/-- The first b bits of an address. -/
def topB (x b : Nat) : Nat := x / 2 ^ (32 - b)
/-- The bit behind the first b. -/
def bitB (x b : Nat) : Nat := x / 2 ^ (31 - b) % 2
theorem topB_succ (x b : Nat) (h : b < 32) : topB x (b + 1) = 2 * topB x b + bitB x b := by
  unfold topB bitB
  have e : 2 ^ (32 - b) = 2 ^ (31 - b) * 2 := by rw [← Nat.pow_succ]; congr 1; omega
  rw [e, ← Nat.div_div_eq_div_mul, show 32 - (b + 1) = 31 - b by omega]
  omega
theorem topB_down {x y b c : Nat} (h : b ≤ c) (hc : c ≤ 32) (e : topB x c = topB y c) : topB x b = topB y b := by
  have e1 : ∀ z, topB z b = topB z c / 2 ^ (c - b) := fun z => by
    unfold topB
    rw [Nat.div_div_eq_div_mul, ← Nat.pow_add, show 32 - c + (c - b) = 32 - b by omega]
  rw [e1, e1, e]
theorem bitB_same {x y b c : Nat} (h : b < c) (hc : c ≤ 32) (e : topB x c = topB y c) : bitB x b = bitB y b := by
  have h1 := topB_down (show b + 1 ≤ c from h) hc e
  rw [topB_succ _ _ (by omega), topB_succ _ _ (by omega)] at h1
  have h2 : topB x b = topB y b := topB_down (by omega) hc e
  omega
theorem bitB_lt (x b : Nat) : bitB x b < 2 := Nat.mod_lt _ (by decide)
/-- A valid prefix. -/
def vP (a b : Nat) : Prop := b ≤ 32 ∧ a < 4294967296 ∧ a % 2 ^ (32 - b) = 0
theorem vP_eq {a a' b : Nat} (h : vP a b) (h' : vP a' b) (e : topB a b = topB a' b) : a = a' := by
  have h1 := Nat.div_add_mod a (2 ^ (32 - b))
  have h2 := Nat.div_add_mod a' (2 ^ (32 - b))
  unfold topB at e
  rw [h.2.2] at h1
  rw [h'.2.2] at h2
  rw [e] at h1
  omega
structure Rec where
  a : Nat
  b : Nat
  h : Option (Nat × Nat)
  s0 : Option Nat
  s1 : Option Nat
def Rec.sd (r : Rec) (k : Nat) : Option Nat := if k = 0 then r.s0 else r.s1
def Rec.set (r : Rec) (k c : Nat) : Rec := if k = 0 then { r with s0 := some c } else { r with s1 := some c }
theorem Rec.set_a (r : Rec) (k c : Nat) : (r.set k c).a = r.a := by unfold Rec.set; split <;> rfl
theorem Rec.set_b (r : Rec) (k c : Nat) : (r.set k c).b = r.b := by unfold Rec.set; split <;> rfl
theorem Rec.set_h (r : Rec) (k c : Nat) : (r.set k c).h = r.h := by unfold Rec.set; split <;> rfl
theorem Rec.set_same (r : Rec) (k c : Nat) : (r.set k c).sd k = some c := by unfold Rec.set Rec.sd; split <;> rfl
theorem Rec.set_other (r : Rec) (k k' c : Nat) (hk : k < 2) (hk' : k' < 2) (h : k' ≠ k) : (r.set k c).sd k' = r.sd k' := by
  unfold Rec.set Rec.sd
  by_cases e : k = 0
  · rw [if_pos e, if_neg (by omega), if_neg (by omega)]
  · rw [if_neg e, if_pos (by omega), if_pos (by omega)]
abbrev Gr := Nat → Option Rec
def upG (G : Gr) (n : Nat) (r : Rec) : Gr := fun m => if m = n then some r else G m
theorem upG_same (G : Gr) (n : Nat) (r : Rec) : upG G n r n = some r := if_pos rfl
theorem upG_other (G : Gr) {n m : Nat} (r : Rec) (h : m ≠ n) : upG G n r m = G m := if_neg h
/-- A node lies on an address's way, so many steps below the root. -/
inductive On (G : Gr) (root x : Nat) : Nat → Nat → Prop
  | base : On G root x 0 root
  | step {i n c : Nat} {r : Rec} (h : On G root x i n) (hr : G n = some r) (ht : topB x r.b = topB r.a r.b) (hc : r.sd (bitB x r.b) = some c) : On G root x (i + 1) c
structure TrOk (G : Gr) (root : Nat) : Prop where
  rt : ∃ r, G root = some r ∧ r.a = 0 ∧ r.b = 0
  val : ∀ n r, G n = some r → vP r.a r.b
  kid : ∀ n r, G n = some r → ∀ k, k < 2 → ∀ c, r.sd k = some c → ∃ rc, G c = some rc ∧ r.b < rc.b ∧ topB rc.a r.b = topB r.a r.b ∧ bitB rc.a r.b = k
  all : ∀ n r, G n = some r → ∃ i, On G root r.a i n
theorem On.mem {G : Gr} {root x i n : Nat} (hG : TrOk G root) (h : On G root x i n) : ∃ r, G n = some r := by
  cases h with
  | base => obtain ⟨r, h, _⟩ := hG.rt; exact ⟨r, h⟩
  | step h hr ht hc =>
    obtain ⟨rc, h, _⟩ := hG.kid _ _ hr _ (bitB_lt _ _) _ hc
    exact ⟨rc, h⟩
theorem On.det {G : Gr} {root x : Nat} : ∀ {i n n' : Nat}, On G root x i n → On G root x i n' → n = n'
  | 0, _, _, .base, .base => rfl
  | i + 1, _, _, .step h hr ht hc, .step h' hr' ht' hc' => by
    have e := On.det h h'
    subst e
    rw [hr] at hr'
    cases hr'
    rw [hc] at hc'
    cases hc'
    rfl
theorem On.back {G : Gr} {root x : Nat} : ∀ {j i n : Nat}, On G root x (i + j + 1) n → ∃ m r c, On G root x i m ∧ G m = some r ∧ topB x r.b = topB r.a r.b ∧ r.sd (bitB x r.b) = some c ∧ On G root x (i + 1) c
  | 0, i, _, .step h hr ht hc => ⟨_, _, _, h, hr, ht, hc, .step h hr ht hc⟩
  | j + 1, i, _, .step h hr ht hc => On.back (j := j) h
theorem On.inc {G : Gr} {root x : Nat} (hG : TrOk G root) : ∀ {j i n n' : Nat} {r r' : Rec}, On G root x i n → On G root x (i + j + 1) n' → G n = some r → G n' = some r' → r.b < r'.b
  | 0, i, n, n', r, r', h, .step h' hr ht hc, hg, hg' => by
    have e := On.det h h'
    subst e
    rw [hg] at hr
    cases hr
    obtain ⟨rc, h1, h2, _⟩ := hG.kid _ _ hg _ (bitB_lt _ _) _ hc
    rw [hg'] at h1
    cases h1
    exact h2
  | j + 1, i, n, n', r, r', h, .step h' hr ht hc, hg, hg' => by
    have h0 := On.inc hG (j := j) h h' hg hr
    obtain ⟨rc, h1, h2, _⟩ := hG.kid _ _ hr _ (bitB_lt _ _) _ hc
    rw [hg'] at h1
    cases h1
    omega
theorem On.uniq {G : Gr} {root x : Nat} (hG : TrOk G root) {i i' n n' : Nat} {r r' : Rec} (h : On G root x i n) (h' : On G root x i' n') (hg : G n = some r) (hg' : G n' = some r') (e : r.b = r'.b) : n = n' := by
  rcases Nat.lt_trichotomy i i' with hi | hi | hi
  · obtain ⟨j, rfl⟩ : ∃ j, i' = i + j + 1 := ⟨i' - i - 1, by omega⟩
    have := On.inc hG h h' hg hg'
    omega
  · subst hi
    exact On.det h h'
  · obtain ⟨j, rfl⟩ : ∃ j, i = i' + j + 1 := ⟨i - i' - 1, by omega⟩
    have := On.inc hG h' h hg' hg
    omega
theorem On.swap {G : Gr} {root x y : Nat} (hG : TrOk G root) : ∀ {i n : Nat} {r : Rec}, On G root x i n → G n = some r → topB x r.b = topB y r.b → On G root y i n
  | 0, _, _, .base, _, _ => .base
  | i + 1, n, r, .step (r := rm) h hr ht hc, hg, e => by
    obtain ⟨rc, h1, h2, _⟩ := hG.kid _ _ hr _ (bitB_lt _ _) _ hc
    rw [hg] at h1
    cases h1
    have hv := (hG.val _ _ hg).1
    have e1 : topB x rm.b = topB y rm.b := topB_down (by omega) hv e
    have e2 : bitB x rm.b = bitB y rm.b := bitB_same h2 hv e
    refine .step (On.swap hG h hr e1) hr (by rw [← e1]; exact ht) ?_
    rw [← e2]
    exact hc
/-- What hangs on the prefixes of a tree. -/
structure Hung (G : Gr) (root : Nat) (f : Nat → Nat → Option Nat) : Prop where
  has : ∀ a b j, vP a b → f a b = some j → ∃ i n r hb, On G root a i n ∧ G n = some r ∧ r.a = a ∧ r.b = b ∧ r.h = some (hb, j)
  is : ∀ n r hb j, G n = some r → r.h = some (hb, j) → f r.a r.b = some j

/-- A new leaf below a node. -/
def leafG (G : Gr) (n : Nat) (r : Rec) (k c a b : Nat) : Gr := upG (upG G c ⟨a, b, none, none, none⟩) n (r.set k c)
theorem leafG_n (G : Gr) (n : Nat) (r : Rec) (k c a b : Nat) : leafG G n r k c a b n = some (r.set k c) := upG_same _ _ _
theorem leafG_c (G : Gr) (n : Nat) (r : Rec) (k c a b : Nat) (h : c ≠ n) : leafG G n r k c a b c = some ⟨a, b, none, none, none⟩ := by
  unfold leafG; rw [upG_other _ _ h, upG_same]
theorem leafG_o (G : Gr) (n : Nat) (r : Rec) (k c a b m : Nat) (h : m ≠ n) (h2 : m ≠ c) : leafG G n r k c a b m = G m := by
  unfold leafG; rw [upG_other _ _ h, upG_other _ _ h2]
theorem On.leaf {G : Gr} {root x : Nat} {n : Nat} {r : Rec} {k c a b : Nat} (hk : k < 2) (hn : G n = some r) (hs : r.sd k = none) (hc : G c = none) : ∀ {i m : Nat}, On G root x i m → On (leafG G n r k c a b) root x i m
  | 0, _, .base => .base
  | i + 1, _, .step (n := m) (r := rm) h hr ht hd => by
    by_cases e : m = n
    · subst e
      rw [hn] at hr
      cases hr
      refine .step (On.leaf hk hn hs hc h) (leafG_n _ _ _ _ _ _ _) (by rw [Rec.set_a, Rec.set_b]; exact ht) ?_
      rw [Rec.set_b]
      by_cases e2 : bitB x r.b = k
      · rw [e2, hs] at hd; cases hd
      · rw [Rec.set_other _ _ _ _ hk (bitB_lt _ _) e2]; exact hd
    · refine .step (On.leaf hk hn hs hc h) (r := rm) ?_ ht hd
      rw [leafG_o _ _ _ _ _ _ _ _ e (fun e2 => by rw [e2, hc] at hr; cases hr)]
      exact hr
theorem leaf_ok {G : Gr} {root n : Nat} {r : Rec} {k c a b : Nat} (hG : TrOk G root) (hk : k < 2) (hn : G n = some r) (hs : r.sd k = none) (hc : G c = none) (hv : vP a b) (hb : r.b < b) (ht : topB a r.b = topB r.a r.b) (hbit : bitB a r.b = k) : TrOk (leafG G n r k c a b) root := by
  have hcn : c ≠ n := fun e => by rw [e, hn] at hc; cases hc
  have hget : ∀ m rm, leafG G n r k c a b m = some rm → (m = n ∧ rm = r.set k c) ∨ (m = c ∧ rm = ⟨a, b, none, none, none⟩) ∨ (m ≠ n ∧ m ≠ c ∧ G m = some rm) := by
    intro m rm h
    by_cases e : m = n
    · subst e; rw [leafG_n] at h; cases h; exact .inl ⟨rfl, rfl⟩
    by_cases e2 : m = c
    · subst e2; rw [leafG_c _ _ _ _ _ _ _ e] at h; cases h; exact .inr (.inl ⟨rfl, rfl⟩)
    rw [leafG_o _ _ _ _ _ _ _ _ e e2] at h
    exact .inr (.inr ⟨e, e2, h⟩)
  have hsame : ∀ m rm, G m = some rm → ∃ rm', leafG G n r k c a b m = some rm' ∧ rm'.a = rm.a ∧ rm'.b = rm.b := by
    intro m rm h
    by_cases e : m = n
    · subst e; rw [hn] at h; cases h; exact ⟨_, leafG_n _ _ _ _ _ _ _, Rec.set_a _ _ _, Rec.set_b _ _ _⟩
    · exact ⟨rm, by rw [leafG_o _ _ _ _ _ _ _ _ e (fun e2 => by rw [e2, hc] at h; cases h)]; exact h, rfl, rfl⟩
  refine ⟨?_, ?_, ?_, ?_⟩
  · obtain ⟨r0, h0, h1, h2⟩ := hG.rt
    obtain ⟨r', g, ga, gb⟩ := hsame _ _ h0
    exact ⟨r', g, by rw [ga, h1], by rw [gb, h2]⟩
  · intro m rm h
    rcases hget m rm h with ⟨rfl, rfl⟩ | ⟨rfl, rfl⟩ | ⟨_, _, h⟩
    · rw [Rec.set_a, Rec.set_b]; exact hG.val _ _ hn
    · exact hv
    · exact hG.val _ _ h
  · intro m rm h k' hk' c' hc'
    rcases hget m rm h with ⟨rfl, rfl⟩ | ⟨rfl, rfl⟩ | ⟨_, _, h⟩
    · by_cases e : k' = k
      · subst e
        rw [Rec.set_same] at hc'
        cases hc'
        refine ⟨_, leafG_c _ _ _ _ _ _ _ hcn, ?_, ?_, ?_⟩
        · rw [Rec.set_b]; exact hb
        · rw [Rec.set_b, Rec.set_a]; exact ht
        · rw [Rec.set_b]; exact hbit
      · rw [Rec.set_other _ _ _ _ hk hk' e] at hc'
        obtain ⟨rc, g1, g2, g3, g4⟩ := hG.kid _ _ hn _ hk' _ hc'
        obtain ⟨rc', g, ga, gb⟩ := hsame _ _ g1
        exact ⟨rc', g, by rw [gb, Rec.set_b]; exact g2, by rw [ga, Rec.set_b, Rec.set_a]; exact g3, by rw [ga, Rec.set_b]; exact g4⟩
    · unfold Rec.sd at hc'
      split at hc' <;> cases hc'
    · obtain ⟨rc, g1, g2, g3, g4⟩ := hG.kid _ _ h _ hk' _ hc'
      obtain ⟨rc', g, ga, gb⟩ := hsame _ _ g1
      exact ⟨rc', g, by rw [gb]; exact g2, by rw [ga]; exact g3, by rw [ga]; exact g4⟩
  · intro m rm h
    rcases hget m rm h with ⟨rfl, rfl⟩ | ⟨rfl, rfl⟩ | ⟨_, _, h⟩
    · obtain ⟨i, g⟩ := hG.all _ _ hn
      exact ⟨i, by rw [Rec.set_a]; exact g.leaf hk hn hs hc⟩
    · obtain ⟨i, g⟩ := hG.all _ _ hn
      have g2 := On.swap hG g hn ht.symm
      refine ⟨i + 1, .step (g2.leaf hk hn hs hc) (leafG_n _ _ _ _ _ _ _) (by rw [Rec.set_a, Rec.set_b]; exact ht) ?_⟩
      show (r.set k m).sd (bitB a (r.set k m).b) = some m
      rw [Rec.set_b, hbit, Rec.set_same]
    · obtain ⟨i, g⟩ := hG.all _ _ h
      exact ⟨i, g.leaf hk hn hs hc⟩
theorem leaf_hung {G : Gr} {root n : Nat} {r : Rec} {k c a b : Nat} {f : Nat → Nat → Option Nat} (hf : Hung G root f) (hk : k < 2) (hn : G n = some r) (hs : r.sd k = none) (hc : G c = none) : Hung (leafG G n r k c a b) root f := by
  refine ⟨?_, ?_⟩
  · intro a' b' j hv h
    obtain ⟨i, m, rm, hb, g1, g2, g3, g4, g5⟩ := hf.has a' b' j hv h
    by_cases e : m = n
    · subst e
      rw [hn] at g2
      cases g2
      exact ⟨i, m, _, hb, g1.leaf hk hn hs hc, leafG_n _ _ _ _ _ _ _, by rw [Rec.set_a]; exact g3, by rw [Rec.set_b]; exact g4, by rw [Rec.set_h]; exact g5⟩
    · exact ⟨i, m, rm, hb, g1.leaf hk hn hs hc, by rw [leafG_o _ _ _ _ _ _ _ _ e (fun e2 => by rw [e2, hc] at g2; cases g2)]; exact g2, g3, g4, g5⟩
  · intro m rm hb j h hh
    by_cases e : m = n
    · subst e
      rw [leafG_n] at h
      cases h
      rw [Rec.set_h] at hh
      rw [Rec.set_a, Rec.set_b]
      exact hf.is _ _ hb _ hn hh
    by_cases e2 : m = c
    · subst e2
      rw [leafG_c _ _ _ _ _ _ _ e] at h
      cases h
      cases hh
    rw [leafG_o _ _ _ _ _ _ _ _ e e2] at h
    exact hf.is _ _ hb _ h hh
/-- A fork between a node and what is below it. -/
def forkR (a b k c : Nat) : Rec := if k = 0 then ⟨a, b, none, some c, none⟩ else ⟨a, b, none, none, some c⟩
theorem forkR_a (a b k c : Nat) : (forkR a b k c).a = a := by unfold forkR; split <;> rfl
theorem forkR_b (a b k c : Nat) : (forkR a b k c).b = b := by unfold forkR; split <;> rfl
theorem forkR_h (a b k c : Nat) : (forkR a b k c).h = none := by unfold forkR; split <;> rfl
theorem forkR_same (a b k c : Nat) : (forkR a b k c).sd k = some c := by unfold forkR Rec.sd; split <;> rfl
theorem forkR_other (a b k k' c : Nat) (hk : k < 2) (hk' : k' < 2) (h : k' ≠ k) : (forkR a b k c).sd k' = none := by
  unfold forkR Rec.sd
  by_cases e : k = 0
  · rw [if_pos e, if_neg (by omega)]
  · rw [if_neg e, if_pos (by omega)]
def forkG (G : Gr) (n : Nat) (r : Rec) (k f a b k2 c : Nat) : Gr := upG (upG G f (forkR a b k2 c)) n (r.set k f)
theorem forkG_n (G : Gr) (n : Nat) (r : Rec) (k f a b k2 c : Nat) : forkG G n r k f a b k2 c n = some (r.set k f) := upG_same _ _ _
theorem forkG_f (G : Gr) (n : Nat) (r : Rec) (k f a b k2 c : Nat) (h : f ≠ n) : forkG G n r k f a b k2 c f = some (forkR a b k2 c) := by
  unfold forkG; rw [upG_other _ _ h, upG_same]
theorem forkG_o (G : Gr) (n : Nat) (r : Rec) (k f a b k2 c m : Nat) (h : m ≠ n) (h2 : m ≠ f) : forkG G n r k f a b k2 c m = G m := by
  unfold forkG; rw [upG_other _ _ h, upG_other _ _ h2]
structure ForkAt (G : Gr) (n : Nat) (r : Rec) (k f a b c : Nat) (rc : Rec) : Prop where
  hk : k < 2
  hn : G n = some r
  hs : r.sd k = some c
  hc : G c = some rc
  hf : G f = none
  hv : vP a b
  h1 : r.b < b
  h2 : b < rc.b
  ht : topB a b = topB rc.a b
theorem On.fork {G : Gr} {root x n : Nat} {r rc : Rec} {k f a b c : Nat} (hG : TrOk G root) (F : ForkAt G n r k f a b c rc) : ∀ {i m : Nat} {rm : Rec}, On G root x i m → G m = some rm → topB x rm.b = topB rm.a rm.b → ∃ i', On (forkG G n r k f a b (bitB rc.a b) c) root x i' m
  | 0, _, _, .base, _, _ => ⟨0, .base⟩
  | i + 1, m', rm', .step (n := m) (r := rm) h hr ht hd, hg, e => by
    have hfn : f ≠ n := fun e => by have := F.hf; rw [e, F.hn] at this; cases this
    obtain ⟨i', g⟩ := On.fork hG F h hr ht
    by_cases e1 : m = n
    · subst e1
      have := F.hn
      rw [hr] at this
      cases this
      by_cases e2 : bitB x r.b = k
      · have hs := F.hs
        rw [e2, hs] at hd
        cases hd
        have := F.hc
        rw [hg] at this
        cases this
        have hv := (hG.val _ _ hg).1
        have g1 : On (forkG G m r k f a b (bitB rc.a b) c) root x (i' + 1) f := by
          refine .step g (forkG_n _ _ _ _ _ _ _ _ _) (by rw [Rec.set_a, Rec.set_b]; exact ht) ?_
          rw [Rec.set_b, e2, Rec.set_same]
        refine ⟨i' + 1 + 1, .step g1 (forkG_f _ _ _ _ _ _ _ _ _ hfn) ?_ ?_⟩
        · rw [forkR_a, forkR_b, F.ht]
          exact topB_down (Nat.le_of_lt F.h2) hv e
        · rw [forkR_b, bitB_same F.h2 hv e, forkR_same]
      · refine ⟨i' + 1, .step g (forkG_n _ _ _ _ _ _ _ _ _) (by rw [Rec.set_a, Rec.set_b]; exact ht) ?_⟩
        rw [Rec.set_b, Rec.set_other _ _ _ _ F.hk (bitB_lt _ _) e2]
        exact hd
    · refine ⟨i' + 1, .step g (r := rm) ?_ ht hd⟩
      rw [forkG_o _ _ _ _ _ _ _ _ _ _ e1 (fun e2 => by have := F.hf; rw [← e2, hr] at this; cases this)]
      exact hr
theorem fork_ok {G : Gr} {root n : Nat} {r rc : Rec} {k f a b c : Nat} (hG : TrOk G root) (F : ForkAt G n r k f a b c rc) : TrOk (forkG G n r k f a b (bitB rc.a b) c) root := by
  have hfn : f ≠ n := fun e => by have := F.hf; rw [e, F.hn] at this; cases this
  obtain ⟨rc0, q1, q2, q3, q4⟩ := hG.kid _ _ F.hn _ F.hk _ F.hs
  have := F.hc
  rw [q1] at this
  cases this
  have hvc := (hG.val _ _ q1).1
  have hget : ∀ m rm, forkG G n r k f a b (bitB rc.a b) c m = some rm → (m = n ∧ rm = r.set k f) ∨ (m = f ∧ rm = forkR a b (bitB rc.a b) c) ∨ (m ≠ n ∧ m ≠ f ∧ G m = some rm) := by
    intro m rm h
    by_cases e : m = n
    · subst e; rw [forkG_n] at h; cases h; exact .inl ⟨rfl, rfl⟩
    by_cases e2 : m = f
    · subst e2; rw [forkG_f _ _ _ _ _ _ _ _ _ e] at h; cases h; exact .inr (.inl ⟨rfl, rfl⟩)
    rw [forkG_o _ _ _ _ _ _ _ _ _ _ e e2] at h
    exact .inr (.inr ⟨e, e2, h⟩)
  have hsame : ∀ m rm, G m = some rm → ∃ rm', forkG G n r k f a b (bitB rc.a b) c m = some rm' ∧ rm'.a = rm.a ∧ rm'.b = rm.b := by
    intro m rm h
    by_cases e : m = n
    · subst e; have := F.hn; rw [h] at this; cases this; exact ⟨_, forkG_n _ _ _ _ _ _ _ _ _, Rec.set_a _ _ _, Rec.set_b _ _ _⟩
    · exact ⟨rm, by rw [forkG_o _ _ _ _ _ _ _ _ _ _ e (fun e2 => by have := F.hf; rw [← e2, h] at this; cases this)]; exact h, rfl, rfl⟩
  have hta : topB a r.b = topB r.a r.b := (topB_down (Nat.le_of_lt F.h1) F.hv.1 F.ht).trans q3
  refine ⟨?_, ?_, ?_, ?_⟩
  · obtain ⟨r0, h0, h1, h2⟩ := hG.rt
    obtain ⟨r', g, ga, gb⟩ := hsame _ _ h0
    exact ⟨r', g, by rw [ga, h1], by rw [gb, h2]⟩
  · intro m rm h
    rcases hget m rm h with ⟨rfl, rfl⟩ | ⟨rfl, rfl⟩ | ⟨_, _, h⟩
    · rw [Rec.set_a, Rec.set_b]; exact hG.val _ _ F.hn
    · rw [forkR_a, forkR_b]; exact F.hv
    · exact hG.val _ _ h
  · intro m rm h k' hk' c' hc'
    rcases hget m rm h with ⟨rfl, rfl⟩ | ⟨rfl, rfl⟩ | ⟨_, _, h⟩
    · by_cases e : k' = k
      · subst e
        rw [Rec.set_same] at hc'
        cases hc'
        refine ⟨_, forkG_f _ _ _ _ _ _ _ _ _ hfn, ?_, ?_, ?_⟩
        · rw [Rec.set_b, forkR_b]; exact F.h1
        · rw [Rec.set_b, Rec.set_a, forkR_a]; exact hta
        · rw [Rec.set_b, forkR_a, ← q4]; exact bitB_same F.h1 F.hv.1 F.ht
      · rw [Rec.set_other _ _ _ _ F.hk hk' e] at hc'
        obtain ⟨rc', g1, g2, g3, g4⟩ := hG.kid _ _ F.hn _ hk' _ hc'
        obtain ⟨rc'', g, ga, gb⟩ := hsame _ _ g1
        exact ⟨rc'', g, by rw [gb, Rec.set_b]; exact g2, by rw [ga, Rec.set_b, Rec.set_a]; exact g3, by rw [ga, Rec.set_b]; exact g4⟩
    · by_cases e : k' = bitB rc.a b
      · subst e
        rw [forkR_same] at hc'
        cases hc'
        obtain ⟨rc', g, ga, gb⟩ := hsame _ _ q1
        exact ⟨rc', g, by rw [gb, forkR_b]; exact F.h2, by rw [ga, forkR_a, forkR_b]; exact F.ht.symm, by rw [ga, forkR_b]⟩
      · rw [forkR_other _ _ _ _ _ (bitB_lt _ _) hk' e] at hc'
        cases hc'
    · obtain ⟨rc', g1, g2, g3, g4⟩ := hG.kid _ _ h _ hk' _ hc'
      obtain ⟨rc'', g, ga, gb⟩ := hsame _ _ g1
      exact ⟨rc'', g, by rw [gb]; exact g2, by rw [ga]; exact g3, by rw [ga]; exact g4⟩
  · intro m rm h
    rcases hget m rm h with ⟨rfl, rfl⟩ | ⟨rfl, rfl⟩ | ⟨_, _, h⟩
    · obtain ⟨i, g⟩ := hG.all _ _ F.hn
      rw [Rec.set_a]
      exact g.fork hG F F.hn rfl
    · obtain ⟨i, g⟩ := hG.all _ _ F.hn
      have g2 := On.swap hG g F.hn hta.symm
      obtain ⟨i', g3⟩ := g2.fork hG F F.hn hta
      rw [forkR_a]
      refine ⟨i' + 1, .step g3 (forkG_n _ _ _ _ _ _ _ _ _) ?_ ?_⟩
      · rw [Rec.set_a, Rec.set_b]; exact hta
      · rw [Rec.set_b, bitB_same F.h1 F.hv.1 F.ht, q4, Rec.set_same]
    · obtain ⟨i, g⟩ := hG.all _ _ h
      exact g.fork hG F h rfl
theorem fork_hung {G : Gr} {root n : Nat} {r rc : Rec} {k f a b c : Nat} {fu : Nat → Nat → Option Nat} (hG : TrOk G root) (hf : Hung G root fu) (F : ForkAt G n r k f a b c rc) : Hung (forkG G n r k f a b (bitB rc.a b) c) root fu := by
  have hfn : f ≠ n := fun e => by have := F.hf; rw [e, F.hn] at this; cases this
  refine ⟨?_, ?_⟩
  · intro a' b' j hv h
    obtain ⟨i, m, rm, hb, g1, g2, g3, g4, g5⟩ := hf.has a' b' j hv h
    obtain ⟨i', g6⟩ := g1.fork hG F g2 (by rw [g3])
    by_cases e : m = n
    · subst e
      have := F.hn
      rw [g2] at this
      cases this
      exact ⟨i', m, _, hb, g6, forkG_n _ _ _ _ _ _ _ _ _, by rw [Rec.set_a]; exact g3, by rw [Rec.set_b]; exact g4, by rw [Rec.set_h]; exact g5⟩
    · exact ⟨i', m, rm, hb, g6, by rw [forkG_o _ _ _ _ _ _ _ _ _ _ e (fun e2 => by have := F.hf; rw [← e2, g2] at this; cases this)]; exact g2, g3, g4, g5⟩
  · intro m rm hb j h hh
    by_cases e : m = n
    · subst e
      rw [forkG_n] at h
      cases h
      rw [Rec.set_h] at hh
      rw [Rec.set_a, Rec.set_b]
      exact hf.is _ _ hb _ F.hn hh
    by_cases e2 : m = f
    · subst e2
      rw [forkG_f _ _ _ _ _ _ _ _ _ e] at h
      cases h
      rw [forkR_h] at hh
      cases hh
    rw [forkG_o _ _ _ _ _ _ _ _ _ _ e e2] at h
    exact hf.is _ _ hb _ h hh
/-- Something is hung onto a node. -/
def Rec.hang (r : Rec) (hb j : Nat) : Rec := { r with h := some (hb, j) }
theorem On.hang {G : Gr} {root x n : Nat} {r : Rec} {hb j : Nat} (hn : G n = some r) : ∀ {i m : Nat}, On G root x i m → On (upG G n (r.hang hb j)) root x i m
  | 0, _, .base => .base
  | i + 1, _, .step (n := m) (r := rm) h hr ht hd => by
    by_cases e : m = n
    · subst e
      rw [hn] at hr
      cases hr
      exact .step (On.hang hn h) (upG_same _ _ _) ht hd
    · exact .step (On.hang hn h) (r := rm) (by rw [upG_other _ _ e]; exact hr) ht hd
theorem hang_ok {G : Gr} {root n : Nat} {r : Rec} {hb j : Nat} (hG : TrOk G root) (hn : G n = some r) : TrOk (upG G n (r.hang hb j)) root := by
  have hget : ∀ m rm, upG G n (r.hang hb j) m = some rm → ∃ rm', G m = some rm' ∧ rm'.a = rm.a ∧ rm'.b = rm.b ∧ ∀ k, rm'.sd k = rm.sd k := by
    intro m rm h
    by_cases e : m = n
    · subst e; rw [upG_same] at h; cases h; exact ⟨r, hn, rfl, rfl, fun _ => rfl⟩
    · rw [upG_other _ _ e] at h; exact ⟨rm, h, rfl, rfl, fun _ => rfl⟩
  have hsame : ∀ m rm, G m = some rm → ∃ rm', upG G n (r.hang hb j) m = some rm' ∧ rm'.a = rm.a ∧ rm'.b = rm.b := by
    intro m rm h
    by_cases e : m = n
    · subst e; rw [hn] at h; cases h; exact ⟨_, upG_same _ _ _, rfl, rfl⟩
    · exact ⟨rm, by rw [upG_other _ _ e]; exact h, rfl, rfl⟩
  refine ⟨?_, ?_, ?_, ?_⟩
  · obtain ⟨r0, h0, h1, h2⟩ := hG.rt
    obtain ⟨r', g, ga, gb⟩ := hsame _ _ h0
    exact ⟨r', g, by rw [ga, h1], by rw [gb, h2]⟩
  · intro m rm h
    obtain ⟨rm', g, ga, gb, _⟩ := hget m rm h
    rw [← ga, ← gb]
    exact hG.val _ _ g
  · intro m rm h k' hk' c' hc'
    obtain ⟨rm', g, ga, gb, gs⟩ := hget m rm h
    rw [← gs] at hc'
    obtain ⟨rc, g1, g2, g3, g4⟩ := hG.kid _ _ g _ hk' _ hc'
    obtain ⟨rc', g5, g6, g7⟩ := hsame _ _ g1
    exact ⟨rc', g5, by rw [g7, ← gb]; exact g2, by rw [g6, ← gb, ← ga]; exact g3, by rw [g6, ← gb]; exact g4⟩
  · intro m rm h
    obtain ⟨rm', g, ga, gb, gs⟩ := hget m rm h
    obtain ⟨i, g1⟩ := hG.all _ _ g
    rw [← ga]
    exact ⟨i, g1.hang hn⟩
/-- The function with one value put anew. -/
def upF (f : Nat → Nat → Option Nat) (a b j : Nat) : Nat → Nat → Option Nat := fun a' b' => if a' = a ∧ b' = b then some j else f a' b'
theorem hang_hung {G : Gr} {root n : Nat} {r : Rec} {hb j : Nat} {f : Nat → Nat → Option Nat} (hG : TrOk G root) (hf : Hung G root f) (hn : G n = some r) : Hung (upG G n (r.hang hb j)) root (upF f r.a r.b j) := by
  refine ⟨?_, ?_⟩
  · intro a' b' j' hv h
    unfold upF at h
    split at h
    · rename_i e
      cases h
      obtain ⟨i, g⟩ := hG.all _ _ hn
      exact ⟨i, n, _, hb, by rw [e.1]; exact g.hang hn, upG_same _ _ _, e.1.symm, e.2.symm, rfl⟩
    · rename_i e
      obtain ⟨i, m, rm, hb', g1, g2, g3, g4, g5⟩ := hf.has a' b' j' hv h
      have em : m ≠ n := fun e2 => by
        subst e2
        rw [hn] at g2
        cases g2
        exact e ⟨g3.symm, g4.symm⟩
      exact ⟨i, m, rm, hb', g1.hang hn, by rw [upG_other _ _ em]; exact g2, g3, g4, g5⟩
  · intro m rm hb' j' h hh
    by_cases e : m = n
    · subst e
      rw [upG_same] at h
      cases h
      cases hh
      unfold upF
      rw [if_pos ⟨rfl, rfl⟩]
    · rw [upG_other _ _ e] at h
      unfold upF
      by_cases e2 : rm.a = r.a ∧ rm.b = r.b
      · exfalso
        obtain ⟨i, g1⟩ := hG.all _ _ h
        obtain ⟨i2, g2⟩ := hG.all _ _ hn
        rw [e2.1] at g1
        exact e (On.uniq hG g1 g2 h hn e2.2)
      · rw [if_neg e2]
        exact hf.is _ _ hb' _ h hh

theorem lead32 (x : Int) (w : World) (h0 : 0 ≤ x) (h1 : x ≤ 4294967295) :
    Calls Try.prog 87 #[.int .u32 x] w fun e w' => e = .returned (.int .i64 (32 - (Lib.bitLen x.toNat : Int))) ∧ w' = w := Any.bits_LeadingZeros32 Try.lays133 x w h0 h1
/-- How many bits two addresses have alike. -/
def alikeI (a c : Int) : Int := 32 - (Lib.bitLen (bits .xor .i64 a c).toNat : Int)
def min3 (x y z : Int) : Int := if z < (if y < x then y else x) then z else (if y < x then y else x)
theorem run_min3 (x y z : Int) (ts : Array TypeId) (t : TypeId) (w : World) : (Builtin.min_ ts t #[.int .i64 x, .int .i64 y, .int .i64 z]).run Try.prog w = .ok (.int .i64 (min3 x y z)) w := by
  unfold min3
  simp [Builtin.min_, Builtin.min2]
theorem min3_le (x y z : Int) : min3 x y z ≤ x ∧ min3 x y z ≤ y ∧ min3 x y z ≤ z ∧ (min3 x y z = x ∨ min3 x y z = y ∨ min3 x y z = z) := by
  unfold min3
  split <;> split <;> omega
/-- How long the common prefix is. -/
def comB (a b c d : Int) : Int := min3 (alikeI a c) b d
set_option maxHeartbeats 2000000 in
theorem common_walk (a b c d : Int) (w : World) (ha0 : 0 ≤ a) (ha1 : a ≤ 4294967295) (hb0 : 0 ≤ b) (hb1 : b ≤ 32) (hd0 : 0 ≤ d)
    (hx0 : 0 ≤ bits .xor .i64 a c) (hx1 : bits .xor .i64 a c ≤ 4294967295) (hl0 : 0 ≤ alikeI a c) :
    Calls Try.prog 85 #[.agg #[.int .i64 a, .int .i64 b], .agg #[.int .i64 c, .int .i64 d]] w fun e w' => e = .returned (.agg #[.int .i64 (a - a % sz (comB a b c d)), .int .i64 (comB a b c d)]) ∧ Below w.heap.size w w' := by
  have HXU : Hid (∀ X : Int, 0 ≤ X → X ≤ 4294967295 → IntKind.u32.wrap X = X) := hide (fun X h0 h1 => by
    have : IntKind.u32.wrap X = X % 4294967296 := by simp [IntKind.wrap, IntKind.bits, IntKind.signed]
    omega)
  have HA : Hid (alikeI a c = 32 - (Lib.bitLen (bits .xor .i64 a c).toNat : Int)) := hide rfl
  have HM : Hid (comB a b c d = min3 (alikeI a c) b d) := hide rfl
  generalize hX : bits .xor .i64 a c = X at *
  generalize alikeI a c = al at *
  have hxu := HXU.out X hx0 hx1
  have CL : Hid (∀ W, Calls Try.prog 87 #[.int .u32 X] W fun e w' => e = .returned (.int .i64 al) ∧ w' = W) := hide (fun W => by have := lead32 X W hx0 hx1; rw [← HA.out] at this; exact this)
  have hm := run_min3 al b d #[2, 2, 2] 2
  have hmb : 0 ≤ min3 al b d ∧ min3 al b d ≤ 32 := by have := min3_le al b d; omega
  rw [← HM.out] at hm hmb
  generalize comB a b c d = m at *
  clear HA HM HXU
  have HB3 := hide (three_holds w #[.int .i64 a, .int .i64 b] #[.int .i64 c, .int .i64 d] #[.int .i64 0, .int .i64 0] 25 25 25)
  have HB := hide (three_alloc w (.cells #[.int .i64 a, .int .i64 b] 25) (.cells #[.int .i64 c, .int .i64 d] 25) (.cells #[.int .i64 0, .int .i64 0] 25))
  go_enter Try.func85, Try.ntmps85
  go_wp2_with ((go_at_call 87; refine (CL.out _).mono ?_; rintro e w' ⟨rfl, rfl⟩))
  refine (around_walk a m ha0 ha1 hmb.1 hmb.2 _).mono ?_
  rintro e w1 ⟨rfl, hb1⟩
  have HR := hide (HB3.out.2.2.next hb1)
  have HBE := hide (HB.out.trans (hb1.mono HB.out.size))
  clear hb1 HB HB3
  have r0 := HR.out.cell 0 _ rfl
  have r1 := HR.out.cell 1 _ rfl
  have rf := HR.out.frozen
  go_wp2_with fail
  exact bodyPost_ret (v := .agg #[.int .i64 (a - a % sz m), .int .i64 m]) (by simp [results, Try.results85, go_sem, r0, r1]) rfl ⟨rfl, (HBE.out.setCell (p := ⟨w.heap.size + 1 + 1, 0, none⟩) (by show w.heap.size ≤ w.heap.size + 1 + 1; omega) _).setCell (p := ⟨w.heap.size + 1 + 1, 1, none⟩) (by show w.heap.size ≤ w.heap.size + 1 + 1; omega) _⟩

theorem bitLenAux_fits : ∀ (f x : Nat), x < 2 ^ f → (x ≠ 0 → 1 ≤ Lib.bitLenAux f x ∧ 2 ^ (Lib.bitLenAux f x - 1) ≤ x) ∧ x < 2 ^ Lib.bitLenAux f x ∧ (x = 0 → Lib.bitLenAux f x = 0)
  | 0, x, h => by
    have : x = 0 := by simpa using h
    subst this
    exact ⟨fun h => absurd rfl h, by simp [Lib.bitLenAux], fun _ => rfl⟩
  | f + 1, x, h => by
    unfold Lib.bitLenAux
    by_cases e : x = 0
    · rw [if_pos e]
      subst e
      exact ⟨fun h => absurd rfl h, by simp, fun _ => rfl⟩
    · rw [if_neg e]
      have h2 : x / 2 < 2 ^ f := by rw [Nat.pow_succ] at h; omega
      obtain ⟨i1, i2, i3⟩ := bitLenAux_fits f (x / 2) h2
      generalize Lib.bitLenAux f (x / 2) = L at *
      refine ⟨fun _ => ⟨by omega, ?_⟩, ?_, fun h => absurd h e⟩
      · by_cases e2 : x / 2 = 0
        · rw [i3 e2]
          show 2 ^ 0 ≤ x
          omega
        · obtain ⟨j1, j2⟩ := i1 e2
          rw [show 1 + L - 1 = (L - 1) + 1 by omega, Nat.pow_succ]
          omega
      · rw [Nat.add_comm, Nat.pow_succ]
        omega
theorem bitLen_fits (x : Nat) (h : x < 4294967296) : (x ≠ 0 → 1 ≤ Lib.bitLen x ∧ 2 ^ (Lib.bitLen x - 1) ≤ x) ∧ x < 2 ^ Lib.bitLen x ∧ Lib.bitLen x ≤ 32 := by
  obtain ⟨h1, h2, _⟩ := bitLenAux_fits 64 x (Nat.lt_trans h (by decide))
  exact ⟨h1, h2, Lib.bitLen_le x 32 (by decide) h⟩
theorem xor_eq_zero' {a b : Nat} (h : a ^^^ b = 0) : a = b := by
  apply Nat.eq_of_testBit_eq
  intro i
  have := congrArg (fun n => Nat.testBit n i) h
  simp only [Nat.testBit_xor, Nat.zero_testBit] at this
  revert this
  cases a.testBit i <;> cases b.testBit i <;> simp
theorem alike_top (a c m : Nat) (ha : a < 4294967296) (hc : c < 4294967296) (hm : m + Lib.bitLen (a ^^^ c) ≤ 32) : topB a m = topB c m := by
  obtain ⟨_, h2, _⟩ := bitLen_fits (a ^^^ c) (Nat.xor_lt_two_pow (n := 32) ha hc)
  have h3 : a ^^^ c < 2 ^ (32 - m) := Nat.lt_of_lt_of_le h2 (Nat.pow_le_pow_right (by decide) (by omega))
  have h4 : (a ^^^ c) >>> (32 - m) = 0 := by rw [Nat.shiftRight_eq_div_pow]; exact Nat.div_eq_of_lt h3
  rw [Nat.shiftRight_xor_distrib] at h4
  have h5 := xor_eq_zero' h4
  rw [Nat.shiftRight_eq_div_pow, Nat.shiftRight_eq_div_pow] at h5
  exact h5
theorem alike_bit (a c m : Nat) (ha : a < 4294967296) (hc : c < 4294967296) (hm : m + Lib.bitLen (a ^^^ c) = 32) (hm2 : m < 32) : bitB a m ≠ bitB c m := by
  have hx := Nat.xor_lt_two_pow (n := 32) ha hc
  obtain ⟨h1, h2, _⟩ := bitLen_fits (a ^^^ c) hx
  by_cases e : a ^^^ c = 0
  · rw [e] at hm; simp [Lib.bitLen, Lib.bitLenAux] at hm; omega
  obtain ⟨h3, h4⟩ := h1 e
  have hk : Lib.bitLen (a ^^^ c) - 1 = 31 - m := by omega
  rw [hk] at h4
  rw [show Lib.bitLen (a ^^^ c) = 31 - m + 1 by omega, Nat.pow_succ] at h2
  have h5 : (a ^^^ c).testBit (31 - m) = true := by
    rw [Nat.testBit_eq_decide_div_mod_eq]
    have : (a ^^^ c) / 2 ^ (31 - m) = 1 := by
      have hp : 0 < 2 ^ (31 - m) := Nat.two_pow_pos _
      apply Nat.div_eq_of_lt_le
      · omega
      · omega
    rw [this]
    rfl
  rw [Nat.testBit_xor] at h5
  unfold bitB
  intro e2
  rw [Nat.testBit_eq_decide_div_mod_eq, Nat.testBit_eq_decide_div_mod_eq, e2] at h5
  simp at h5
/-- The address of the prefix of so many bits that has an address. -/
def mskN (a m : Nat) : Nat := a - a % 2 ^ (32 - m)
theorem mskN_vP (a m : Nat) (ha : a < 4294967296) (hm : m ≤ 32) : vP (mskN a m) m := by
  refine ⟨hm, by unfold mskN; omega, ?_⟩
  unfold mskN
  have h := Nat.div_add_mod a (2 ^ (32 - m))
  rw [show a - a % 2 ^ (32 - m) = 2 ^ (32 - m) * (a / 2 ^ (32 - m)) by omega]
  exact Nat.mul_mod_right _ _
theorem mskN_top (a m : Nat) : topB (mskN a m) m = topB a m := by
  unfold mskN topB
  have hp : 0 < 2 ^ (32 - m) := Nat.two_pow_pos _
  have h := Nat.div_add_mod a (2 ^ (32 - m))
  rw [show a - a % 2 ^ (32 - m) = 2 ^ (32 - m) * (a / 2 ^ (32 - m)) by omega, Nat.mul_div_cancel_left _ hp]
theorem mskN_self {a m : Nat} (h : vP a m) : mskN a m = a := by unfold mskN; rw [h.2.2]; rfl
theorem mskN_cast (a m : Nat) : ((a : Int) - (a : Int) % sz (m : Int)) = ((mskN a m : Nat) : Int) := by
  unfold mskN sz
  rw [show ((m : Int)).toNat = m by omega]
  have : ((2 : Int) ^ (32 - m)) = ((2 ^ (32 - m) : Nat) : Int) := by simp
  rw [this]
  have h : a % 2 ^ (32 - m) ≤ a := Nat.mod_le _ _
  omega
/-- How long the common prefix of two is. -/
theorem comB_facts {a b c d : Nat} (h1 : vP a b) (h2 : vP c d) : ∃ m : Nat, comB (a : Int) (b : Int) (c : Int) (d : Int) = (m : Int) ∧ m ≤ b ∧ m ≤ d ∧ topB a m = topB c m ∧ (m < b → m < d → bitB a m ≠ bitB c m) := by
  obtain ⟨b1, a1, _⟩ := h1
  obtain ⟨d1, c1, _⟩ := h2
  have hx := Nat.xor_lt_two_pow (n := 32) a1 c1
  obtain ⟨_, _, hl⟩ := bitLen_fits (a ^^^ c) hx
  have e : alikeI (a : Int) (c : Int) = ((32 - Lib.bitLen (a ^^^ c) : Nat) : Int) := by
    unfold alikeI
    rw [xor_i64 a c a1 c1]
    simp
    omega
  have h3 := min3_le (alikeI (a : Int) (c : Int)) (b : Int) (d : Int)
  unfold comB
  rw [e] at h3 ⊢
  generalize min3 _ _ _ = M at *
  refine ⟨M.toNat, by omega, by omega, by omega, alike_top a c _ a1 c1 (by omega), fun hb hd => alike_bit a c _ a1 c1 (by omega) (by omega)⟩
theorem comB_pre {a c : Nat} (ha : a < 4294967296) (hc : c < 4294967296) : 0 ≤ bits .xor .i64 (a : Int) (c : Int) ∧ bits .xor .i64 (a : Int) (c : Int) ≤ 4294967295 ∧ 0 ≤ alikeI (a : Int) (c : Int) := by
  have hx := Nat.xor_lt_two_pow (n := 32) ha hc
  obtain ⟨_, _, hl⟩ := bitLen_fits (a ^^^ c) hx
  unfold alikeI
  rw [xor_i64 a c ha hc]
  refine ⟨by omega, by omega, ?_⟩
  simp
  omega
end Go.Proofs.Ytmlpninkilcjaaa
