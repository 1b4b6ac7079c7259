/-
Contracts of functions of this seat.
-/
import Derived.Test.YtcnfnimgpiaamaaDoorRows
import Derived.WalkKit
import Derived.ProofKit
import Derived.OpenShut
import Derived.Test.YtcnfnimgpiaamaaDoorSw1
import Derived.Test.YtcnfnimgpiaamaaDoorTki
import Derived.Deep.RegionHeld3
namespace Go.Proofs.YtcnfnimgpiaamaaDoor
open Go.ChangeShapes Go.WideShapes Go.ChangeAt Go.RowKit
set_option linter.unusedVariables false
set_option maxRecDepth 100000
/-- Whether a region that draws its order may be walked in this one: what only looks (true) comes as early as it may; all else comes when nothing else may. -/
def lexOrd (ops : Array Oper) : List (Nat × Bool) → Array Bool → Bool
  | [], listed => (Region.ready .any ops listed).isEmpty
  | (i, true) :: r, listed => Region.free .any ops listed i && (Region.ready .any ops listed).contains i && lexOrd ops r (listed.setIfInBounds i true)
  | (i, false) :: r, listed => (Region.ready .any ops listed == [i]) && lexOrd ops r (listed.setIfInBounds i true)
/-- The walk in that order: what looks yields its value in every world of S; what acts ends in a world of S. -/
def wpLex (P : Program) (ops : Array Oper) (Q : Exit → Act → World → Prop) (S : World → Prop) : List (Nat × Bool) → Act → World → Prop
  | [], a, w => Q .normal a w
  | (i, true) :: r, a, w => ∃ o v, ops[i]? = some o ∧ YieldsIf P ops S o v a ∧ (∀ c a w, Q (.panic c) (a.put o.dst v) w → Q (.panic c) a w) ∧ wpLex P ops Q S r (a.put o.dst v) w
  | (i, false) :: r, a, w => wpOp P ops Q i (fun a' w' => S w' ∧ wpLex P ops Q S r a' w') a w
theorem wpOp_imp {P : Program} {ops : Array Oper} {Q : Exit → Act → World → Prop} {i : Nat} {K K' : Act → World → Prop} {a : Act} {w : World} (h : wpOp P ops Q i K a w) (hk : ∀ a w, K a w → K' a w) : wpOp P ops Q i K' a w := wpOp_mono hk h
theorem lex_any {P : Program} {ops : Array Oper} {Q : Exit → Act → World → Prop} {S : World → Prop} (hs : Region.noSelect ops = true) :
    ∀ (l : List (Nat × Bool)) (listed : Array Bool) (a : Act) (w : World), lexOrd ops l listed = true → S w → wpLex P ops Q S l a w → wpAnyH P .any ops Q S l.length listed a w
  | [], listed, a, w, ho, _, h => wpAnyH_done (by simpa [lexOrd] using ho) h _
  | (i, true) :: r, listed, a, w, ho, hS, h => by
    obtain ⟨o, v, hi, hy, hq, hr⟩ := h
    simp only [lexOrd, Bool.and_eq_true] at ho
    exact wpAnyH_take hi hs ho.1.1 ho.1.2 hq hy hS (lex_any hs r _ _ _ ho.2 hS hr)
  | (i, false) :: r, listed, a, w, ho, hS, h => by
    simp only [lexOrd, Bool.and_eq_true, beq_iff_eq] at ho
    refine wpAnyH_all ho.1 (by simp) ?_
    intro j hj
    have e : j = i := by simpa using hj
    subst e
    exact wpOp_imp h (fun a w hh => ⟨hh.1, lex_any hs r _ _ _ ho.2 hh.1 hh.2⟩)
/-- A region that draws its order, walked in one order. -/
theorem wp_region_lex {P : Program} {ops : Array Oper} {Q : Exit → Act → World → Prop} {id : Nat} {a : Act} {w : World} (S : World → Prop) (l : List (Nat × Bool)) (hm : P.follows .mixedOrders = true) (hs : Region.noSelect ops = true) (ho : lexOrd ops l (Array.replicate ops.size false) = true) (hl : l.length = ops.size) (hS : S w.drew) (h : wpLex P ops Q S l a w.drew) : (Code.region id ops true).wp P Q a w :=
  wp_region_held_drew hm hS (fun _ => by have k := lex_any hs l _ _ _ ho hS h; rw [hl] at k; exact k)
theorem lex_get {ops : Array Oper} {i : Nat} {o : Oper} {t : List Oper} (h : ops.toList.drop i = o :: t) : ops[i]? = some o := by
  have := congrArg List.head? h
  rw [List.head?_drop, List.head?_cons] at this
  rw [← this, Array.getElem?_toList]
section
variable {P : Program} {ops : Array Oper} {Q : Exit → Act → World → Prop} {S : World → Prop} {i : Nat} {o : Oper} {t : List Oper} {r : List (Nat × Bool)} {a : Act} {w : World}
/-- Its guard says no. -/
theorem wpLex_skip (ho : ops.toList.drop i = o :: t) (hw : Region.wanted o (yielded ops a.tmps) = false) (hq : ∀ c a w, Q (.panic c) (a.put o.dst undef) w → Q (.panic c) a w) (h : wpLex P ops Q S r (a.put o.dst undef) w) : wpLex P ops Q S ((i, true) :: r) a w :=
  ⟨o, undef, lex_get ho, .inr ⟨hw, rfl⟩, hq, h⟩
/-- It yields its value in every world of S. -/
theorem wpLex_take (v : Value) (ho : ops.toList.drop i = o :: t) (hw : Region.wanted o (yielded ops a.tmps) = true) (hq : ∀ c a w, Q (.panic c) (a.put o.dst v) w → Q (.panic c) a w) (hy : ∀ w, S w → (execOp a.eval o).run P w = .ok (.value v) w) (h : wpLex P ops Q S r (a.put o.dst v) w) : wpLex P ops Q S ((i, true) :: r) a w :=
  ⟨o, v, lex_get ho, .inl ⟨hw, hy⟩, hq, h⟩
theorem wpLex_pass (ho : ops.toList.drop i = o :: t) (hw : Region.wanted o (yielded ops a.tmps) = false) (hS : S w) (h : wpLex P ops Q S r (a.put o.dst undef) w) : wpLex P ops Q S ((i, false) :: r) a w :=
  wpOp_step (lex_get ho) (fun K' hK => by rw [if_neg (by rw [hw]; decide)]; exact hK _ _ ⟨hS, h⟩)
/-- It acts. -/
theorem wpLex_act (ho : ops.toList.drop i = o :: t) (hw : Region.wanted o (yielded ops a.tmps) = true) (h : ∀ K : Act → World → Prop, Shut (∀ a w, S w → wpLex P ops Q S r a w → K a w) → Oper.wp P o a w K Q) : wpLex P ops Q S ((i, false) :: r) a w :=
  wpOp_step (lex_get ho) (fun K' hK => by rw [if_pos hw]; exact h K' (fun a w hS hh => hK a w ⟨hS, hh⟩))
end
theorem wpLex_nil {P : Program} {ops : Array Oper} {Q : Exit → Act → World → Prop} {S : World → Prop} {a : Act} {w : World} (h : Q .normal a w) : wpLex P ops Q S [] a w := h

/-- A number's text. -/
def decT (x : Int) : ByteArray := decG x.toNat
theorem decT_size (x : Int) (h1 : x ≤ 4294967295) : (decT x).size ≤ 10 := decG_size 9 x.toNat (by rw [show (10 : Nat) ^ (9 + 1) = 10000000000 by decide]; omega)
theorem decT_walk (x : Int) (h0 : 0 ≤ x) (h1 : x ≤ 4294967295) (w : World) : Calls Tryd.prog 27 #[.int .i64 x] w fun e w' => e = .returned (.string (decT x)) ∧ Below w.heap.size w w' := by
  have k := decG_walk 9 x.toNat (by rw [show (10 : Nat) ^ (9 + 1) = 10000000000 by decide]; omega) (by omega) w
  rw [show ((x.toNat : Nat) : Int) = x by omega] at k
  exact k
def shA (x0 x1 : Int) : ByteArray := ((decT x0 ++ (⟨#[62]⟩ : ByteArray)) ++ decT x1) ++ (⟨#[32]⟩ : ByteArray)
def shB (x4 : Int) (o : ByteArray) : ByteArray := if x4 = 0 then o ++ (⟨#[45]⟩ : ByteArray) else o
def ltrB (i : Nat) : UInt8 := [83, 70, 82, 80, 65, 85].getD i 0
def ltr (i : Nat) : ByteArray := ⟨#[ltrB i]⟩
def shF (x4 : Int) (o : ByteArray) : Nat → ByteArray
  | 0 => o
  | k + 1 => if flagB x4 (bitL k) then shF x4 o k ++ ltr k else shF x4 o k
def shC (x2 x3 x5 : Int) (o : ByteArray) : ByteArray := (((((o ++ (⟨#[32]⟩ : ByteArray)) ++ decT x2) ++ (⟨#[32]⟩ : ByteArray)) ++ decT x3) ++ (⟨#[32]⟩ : ByteArray)) ++ decT x5
def shM (x6 : Int) (o : ByteArray) : ByteArray := if x6 = 0 then o else (o ++ (⟨#[32, 109, 115, 115, 32]⟩ : ByteArray)) ++ decT x6
def shS (x7 : Bool) (x8 : Int) (o : ByteArray) : ByteArray := if x7 then (o ++ (⟨#[32, 115, 99, 97, 108, 101, 32]⟩ : ByteArray)) ++ decT x8 else o
def shO (x9 : Bool) (o : ByteArray) : ByteArray := if x9 then o ++ (⟨#[32, 115, 97, 99, 107, 111, 107]⟩ : ByteArray) else o
def shK (z : List Int) (o : ByteArray) : Nat → ByteArray
  | 0 => o
  | k + 1 => (((shK z o k ++ (⟨#[32, 115, 97, 99, 107, 32]⟩ : ByteArray)) ++ decT (z.getD (k * 2) 0)) ++ (⟨#[45]⟩ : ByteArray)) ++ decT (z.getD (k * 2 + 1) 0)
def shD (zs : List Int) (o : ByteArray) : ByteArray := if zs = [] then o else (o ++ (⟨#[32, 100, 97, 116, 97, 32]⟩ : ByteArray)) ++ strB (hexL zs)
/-- A segment's text. -/
def shT (x0 x1 x2 x3 x4 x5 x6 : Int) (x7 : Bool) (x8 : Int) (x9 : Bool) (n0 : Nat) (z zs : List Int) : ByteArray :=
  shD zs (shK z (shO x9 (shS x7 x8 (shM x6 (shC x2 x3 x5 (shF x4 (shB x4 (shA x0 x1)) 6))))) n0)
theorem lit_sz (l : Array UInt8) : (⟨l⟩ : ByteArray).size = l.size := rfl
theorem shA_size (x0 x1 : Int) (h0 : x0 ≤ 65535) (h1 : x1 ≤ 65535) : (shA x0 x1).size ≤ 22 := by
  have a := decT_size x0 (by omega); have b := decT_size x1 (by omega)
  unfold shA; simp only [ByteArray.size_append, lit_sz, List.size_toArray, List.length_cons, List.length_nil]; omega
theorem shB_size (x4 : Int) (o : ByteArray) : (shB x4 o).size ≤ o.size + 1 := by
  unfold shB; split
  · simp only [ByteArray.size_append, lit_sz, List.size_toArray, List.length_cons, List.length_nil]; omega
  · omega
theorem shF_size (x4 : Int) (o : ByteArray) : ∀ k, (shF x4 o k).size ≤ o.size + k
  | 0 => Nat.le_refl _
  | k + 1 => by
    have ih := shF_size x4 o k
    unfold shF; split
    · simp only [ByteArray.size_append, ltr, lit_sz, List.size_toArray, List.length_cons, List.length_nil]; omega
    · omega
theorem shC_size (x2 x3 x5 : Int) (o : ByteArray) (h2 : x2 ≤ 4294967295) (h3 : x3 ≤ 4294967295) (h5 : x5 ≤ 4294967295) : (shC x2 x3 x5 o).size ≤ o.size + 33 := by
  have a := decT_size x2 h2; have b := decT_size x3 h3; have c := decT_size x5 h5
  unfold shC; simp only [ByteArray.size_append, lit_sz, List.size_toArray, List.length_cons, List.length_nil]; omega
theorem shM_size (x6 : Int) (o : ByteArray) (h : x6 ≤ 4294967295) : (shM x6 o).size ≤ o.size + 15 := by
  have a := decT_size x6 h
  unfold shM; split
  · omega
  · simp only [ByteArray.size_append, lit_sz, List.size_toArray, List.length_cons, List.length_nil]; omega
theorem shS_size (x7 : Bool) (x8 : Int) (o : ByteArray) (h : x8 ≤ 4294967295) : (shS x7 x8 o).size ≤ o.size + 17 := by
  have a := decT_size x8 h
  unfold shS; split
  · simp only [ByteArray.size_append, lit_sz, List.size_toArray, List.length_cons, List.length_nil]; omega
  · omega
theorem shO_size (x9 : Bool) (o : ByteArray) : (shO x9 o).size ≤ o.size + 7 := by
  unfold shO; split
  · simp only [ByteArray.size_append, lit_sz, List.size_toArray, List.length_cons, List.length_nil]; omega
  · omega
theorem shK_size (z : List Int) (o : ByteArray) (h : ∀ q, z.getD q 0 ≤ 4294967295) : ∀ k, (shK z o k).size ≤ o.size + 27 * k
  | 0 => Nat.le_refl _
  | k + 1 => by
    have ih := shK_size z o h k
    have a := decT_size _ (h (k * 2)); have b := decT_size _ (h (k * 2 + 1))
    unfold shK; simp only [ByteArray.size_append, lit_sz, List.size_toArray, List.length_cons, List.length_nil]; omega
def lettersB : ByteArray := ⟨#[83, 70, 82, 80, 65, 85]⟩
theorem ltr_at (i : Nat) (h : i < 6) : lettersB.extract i (i + 1) = ltr i := by
  rcases (show i = 0 ∨ i = 1 ∨ i = 2 ∨ i = 3 ∨ i = 4 ∨ i = 5 by omega) with rfl | rfl | rfl | rfl | rfl | rfl <;> rfl
/-- The one letter out of the letters. -/
theorem sl_ltr (i : Nat) (h : i < 6) (w : World) : (Instr.slice 9 (.string ⟨#[83, 70, 82, 80, 65, 85]⟩) (some (.int .i64 (i : Int))) (some (.int .i64 ((i : Int) + 1))) none).run Tryd.prog w = .ok (.string (ltr i)) w := by
  have k := run_slice_string (P := Tryd.prog) w 9 lettersB .i64 .i64 (i : Int) ((i : Int) + 1) Tryd.underlying9 (by omega) (by omega) (by show (i : Int) + 1 ≤ 6; omega)
  rw [show ((i : Int)).toNat = i by omega, show ((i : Int) + 1).toNat = i + 1 by omega, ltr_at i h] at k
  exact k
end Go.Proofs.YtcnfnimgpiaamaaDoor
