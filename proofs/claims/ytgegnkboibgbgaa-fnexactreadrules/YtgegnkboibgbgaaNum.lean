/-
Contracts of functions of this seat.
-/
import Derived.Test.YtgegnkboibgbgaaRows
import Derived.WalkKit
import Derived.ProofKit
import Derived.OpenShut
import Derived.Test.YtgegnkboibgbgaaDcg
import Derived.Test.YtgegnkboibgbgaaRok
import Derived.ArgAppend
namespace Go.Proofs.Ytgegnkboibgbgaa
open Go.ChangeShapes Go.WideShapes Go.ChangeAt Go.RowKit
set_option linter.unusedVariables false
set_option maxRecDepth 100000
/-- A decimal digit's byte. -/
def dgt (x : UInt8) : Bool := decide (48 ≤ x.toNat) && decide (x.toNat ≤ 57)
theorem dgt_iff {x : UInt8} : dgt x = true ↔ 48 ≤ x.toNat ∧ x.toNat ≤ 57 := by unfold dgt; simp
/-- The number that digits tell. -/
def numV (l : List UInt8) : Int := l.foldl (fun n x => n * 10 + ((x.toNat : Int) - 48)) 0
theorem numV_snoc (l : List UInt8) (x : UInt8) : numV (l ++ [x]) = numV l * 10 + ((x.toNat : Int) - 48) := by unfold numV; simp [List.foldl_append]
theorem numV_take (l : List UInt8) (k : Nat) (h : k < l.length) : numV (l.take (k + 1)) = numV (l.take k) * 10 + ((l[k].toNat : Int) - 48) := by
  rw [List.take_succ_eq_append_getElem h, numV_snoc]
theorem all_take {l : List UInt8} (h : l.all dgt = true) (k : Nat) : (l.take k).all dgt = true := by
  rw [List.all_eq_true] at *; exact fun x hx => h x (List.mem_of_mem_take hx)
theorem all_succ {l : List UInt8} {k : Nat} (h : k < l.length) (h0 : (l.take k).all dgt = true) (h1 : dgt l[k] = true) : (l.take (k + 1)).all dgt = true := by
  rw [List.take_succ_eq_append_getElem h, List.all_append, h0]; simp [h1]
theorem all_not {l : List UInt8} {k : Nat} (h : k < l.length) (h1 : dgt l[k] = false) : l.all dgt = false := by
  cases e : l.all dgt with
  | false => rfl
  | true =>
    rw [List.all_eq_true] at e
    have := e l[k] (List.getElem_mem h)
    rw [h1] at this; cases this
theorem numV_nn (l : List UInt8) (h : l.all dgt = true) : ∀ k, k ≤ l.length → 0 ≤ numV (l.take k)
  | 0, _ => by simp [numV]
  | k + 1, hk => by
    have ih := numV_nn l h k (by omega)
    rw [numV_take l k (by omega)]
    have := dgt_iff.1 ((List.all_eq_true.1 h) l[k] (List.getElem_mem (by omega)))
    omega
theorem numV_mono (l : List UInt8) (h : l.all dgt = true) (k : Nat) : ∀ d, k + d ≤ l.length → numV (l.take k) ≤ numV (l.take (k + d))
  | 0, _ => Int.le_refl _
  | d + 1, hk => by
    have ih := numV_mono l h k d (by omega)
    have h0 := numV_nn l h (k + d) (by omega)
    rw [← Nat.add_assoc, numV_take l (k + d) (by omega)]
    have := dgt_iff.1 ((List.all_eq_true.1 h) l[k + d] (List.getElem_mem (by omega)))
    omega
theorem numV_le (l : List UInt8) (h : l.all dgt = true) (k : Nat) (hk : k ≤ l.length) : numV (l.take k) ≤ numV l := by
  have := numV_mono l h k (l.length - k) (by omega)
  rw [show k + (l.length - k) = l.length by omega, List.take_length] at this
  exact this
/-- A needless nought ahead. -/
def ledN (l : List UInt8) : Bool := decide (1 < l.length) && l.head? == some 48
def numOK (l : List UInt8) (most : Int) : Bool := !l.isEmpty && !ledN l && l.all dgt && decide (numV l ≤ most)
def numF (l : List UInt8) (k : Nat) : Bool := !l.isEmpty && decide (l.length ≤ k) && l.all dgt && !ledN l
theorem numOK_nodigit {l : List UInt8} {most : Int} {k : Nat} (h : k < l.length) (h1 : dgt l[k] = false) : numOK l most = false := by
  unfold numOK; rw [all_not h h1]; simp
theorem numOK_more {l : List UInt8} {most : Int} {k : Nat} (hk : k ≤ l.length) (h1 : most < numV (l.take k)) : numOK l most = false := by
  unfold numOK
  cases e : l.all dgt with
  | false => simp
  | true =>
    have := numV_le l e k hk
    rw [show decide (numV l ≤ most) = false from decide_eq_false (by omega)]; simp
theorem led_big (l : List UInt8) (h : l.all dgt = true) (hl : ledN l = false) : (2 < l.length → 100 ≤ numV l) ∧ (3 < l.length → 1000 ≤ numV l) := by
  have hd := List.all_eq_true.1 h
  constructor
  · intro h2
    have := numV_le l h 3 (by omega)
    match l, h2, hl, hd, this with
    | a :: b :: c :: t, _, hl, hd, this =>
      have h1 := dgt_iff.1 (hd a (by simp))
      have h2 := dgt_iff.1 (hd b (by simp))
      have h3 := dgt_iff.1 (hd c (by simp))
      have h4 : a.toNat ≠ 48 := fun e => by
        have : a = 48 := UInt8.toNat_inj.1 e
        rw [this] at hl; simp [ledN] at hl
      simp only [List.take_succ_cons, List.take_zero] at this
      have e : numV [a, b, c] = ((a.toNat : Int) - 48) * 100 + ((b.toNat : Int) - 48) * 10 + ((c.toNat : Int) - 48) := by simp [numV]; omega
      omega
  · intro h2
    have := numV_le l h 4 (by omega)
    match l, h2, hl, hd, this with
    | a :: b :: c :: d :: t, _, hl, hd, this =>
      have h1 := dgt_iff.1 (hd a (by simp))
      have h2 := dgt_iff.1 (hd b (by simp))
      have h3 := dgt_iff.1 (hd c (by simp))
      have h3' := dgt_iff.1 (hd d (by simp))
      have h4 : a.toNat ≠ 48 := fun e => by
        have : a = 48 := UInt8.toNat_inj.1 e
        rw [this] at hl; simp [ledN] at hl
      simp only [List.take_succ_cons, List.take_zero] at this
      have e : numV [a, b, c, d] = ((a.toNat : Int) - 48) * 1000 + ((b.toNat : Int) - 48) * 100 + ((c.toNat : Int) - 48) * 10 + ((d.toNat : Int) - 48) := by simp [numV]; omega
      omega
theorem numOK_F3 (l : List UInt8) : (numF l 3 && decide (numV l ≤ 255)) = numOK l 255 := by
  unfold numF numOK
  cases e1 : l.all dgt with
  | false => simp
  | true =>
    cases e2 : ledN l with
    | true => simp
    | false =>
      have := (led_big l e1 e2).2
      by_cases h : l.length ≤ 3
      · rw [decide_eq_true h]; cases l.isEmpty <;> simp
      · rw [decide_eq_false (p := numV l ≤ 255) (by have := this (by omega); omega)]; simp
theorem numOK_F2 (l : List UInt8) : (numF l 2 && decide (numV l ≤ 32)) = numOK l 32 := by
  unfold numF numOK
  cases e1 : l.all dgt with
  | false => simp
  | true =>
    cases e2 : ledN l with
    | true => simp
    | false =>
      have := (led_big l e1 e2).1
      by_cases h : l.length ≤ 2
      · rw [decide_eq_true h]; cases l.isEmpty <;> simp
      · rw [decide_eq_false (p := numV l ≤ 32) (by have := this (by omega); omega)]; simp
theorem numOK_len {l : List UInt8} (h : numOK l 255 = true) : 1 ≤ l.length ∧ l.length ≤ 3 ∧ 0 ≤ numV l ∧ numV l ≤ 255 := by
  have h2 := h
  rw [← numOK_F3] at h
  unfold numF at h
  simp only [Bool.and_eq_true, decide_eq_true_eq, Bool.not_eq_true'] at h
  obtain ⟨⟨⟨⟨h1, h2⟩, h3⟩, h4⟩, h5⟩ := h
  have h0 := numV_nn l h3 l.length (Nat.le_refl _)
  rw [List.take_length] at h0
  refine ⟨?_, h2, h0, h5⟩
  cases l with
  | nil => simp at h1
  | cons => simp
/-- The text of the number is the digits, just where no needless nought stands ahead. -/
theorem dec_digits (l : List UInt8) (h0 : l ≠ []) (h3 : l.length ≤ 3) (h : l.all dgt = true) : 0 ≤ numV l ∧ numV l < 1000 ∧ ((decL (numV l)).toList == l) = !ledN l := by
  have hd := List.all_eq_true.1 h
  have dgx : ∀ (x : UInt8), dgt x = true → dg ((x.toNat : Int) - 48) = x := fun x hx => by
    have := dgt_iff.1 hx
    apply UInt8.toNat_inj.1
    unfold dg
    rw [UInt8.toNat_ofNat']
    omega
  match l, h0, h3, hd with
  | [a], _, _, hd =>
    have h1 := dgt_iff.1 (hd a (by simp))
    have e : numV [a] = (a.toNat : Int) - 48 := by simp [numV]
    refine ⟨by omega, by omega, ?_⟩
    rw [decL_one (by omega), e, dgx a (hd a (by simp))]
    simp [ledN]
  | [a, b], _, _, hd =>
    have h1 := dgt_iff.1 (hd a (by simp))
    have h2 := dgt_iff.1 (hd b (by simp))
    have e : numV [a, b] = ((a.toNat : Int) - 48) * 10 + ((b.toNat : Int) - 48) := by simp [numV]
    refine ⟨by omega, by omega, ?_⟩
    by_cases h4 : a = 48
    · rw [decL_one (by rw [e, h4]; show ((48 : Nat) - 48 : Int) * 10 + _ < 10; omega)]
      simp [ledN, h4]
    · have h5 : a.toNat ≠ 48 := fun e => h4 (UInt8.toNat_inj.1 e)
      unfold decL
      rw [if_neg (by omega), if_pos (by omega), show numV [a, b] / 10 = (a.toNat : Int) - 48 by omega, show numV [a, b] % 10 = (b.toNat : Int) - 48 by omega, dgx a (hd a (by simp)), dgx b (hd b (by simp))]
      simp [ledN, h4]
  | [a, b, c], _, _, hd =>
    have h1 := dgt_iff.1 (hd a (by simp))
    have h2 := dgt_iff.1 (hd b (by simp))
    have h3 := dgt_iff.1 (hd c (by simp))
    have e : numV [a, b, c] = ((a.toNat : Int) - 48) * 100 + ((b.toNat : Int) - 48) * 10 + ((c.toNat : Int) - 48) := by simp [numV]; omega
    refine ⟨by omega, by omega, ?_⟩
    by_cases h4 : a = 48
    · have h6 : numV [a, b, c] < 100 := by rw [e, h4]; show ((48 : Nat) - 48 : Int) * 100 + _ + _ < 100; omega
      have h7 : ¬ (decL (numV [a, b, c])).toList = [a, b, c] := fun e2 => by
        have := congrArg List.length e2
        unfold decL at this
        split at this
        · simp at this
        · simp at this
      rw [show ((decL (numV [a, b, c])).toList == [a, b, c]) = false from beq_eq_false_iff_ne.2 h7]
      simp [ledN, h4]
    · have h5 : a.toNat ≠ 48 := fun e => h4 (UInt8.toNat_inj.1 e)
      unfold decL
      rw [if_neg (by omega), if_neg (by omega), show numV [a, b, c] / 100 = (a.toNat : Int) - 48 by omega, show numV [a, b, c] / 10 % 10 = (b.toNat : Int) - 48 by omega, show numV [a, b, c] % 10 = (c.toNat : Int) - 48 by omega, dgx a (hd a (by simp)), dgx b (hd b (by simp)), dgx c (hd c (by simp))]
      simp [ledN, h4]

def numX (l : List UInt8) (most : Int) : Int := if numOK l most then numV l else 0
theorem numX_no {l : List UInt8} {most : Int} (h : numOK l most = false) : numX l most = 0 := by unfold numX; rw [h]; rfl
theorem numX_yes {l : List UInt8} {most : Int} (h : numOK l most = true) : numX l most = numV l := by unfold numX; rw [h]; rfl
theorem ret_intbool {k : IntKind} {a b : Int} {x y : Bool} (h : a = b) (h2 : x = y) : Ending.returned (.tuple #[.int k a, .bool x]) = .returned (.tuple #[.int k b, .bool y]) := by rw [h, h2]
set_option maxHeartbeats 1000000 in
theorem decimal_walk (l : List UInt8) (most : Int) (w : World) (hl : l.length ≤ 1048576) (hm : 0 ≤ most ∧ most ≤ 1000000) :
    Calls Try.prog 61 #[.string (bs l), .int .i64 most] w fun e w' => e = .returned (.tuple #[.int .i64 (numX l most), .bool (numOK l most)]) ∧ w' = w := by
  have hsz := bs_size l
  by_cases hz : l = []
  · have HN : Hid (numOK l most = false) := hide (by rw [hz]; rfl)
    have h0 : (bs l).size = 0 := by rw [hsz, hz]; rfl
    have he : ((bs l).toList == []) = true := by rw [bs_toList, hz]; rfl
    clear hz hsz
    generalize bs l = s at *
    go_enter Try.func61, Try.ntmps61
    go_wp2_with fail
    all_goals
      go_ret2
      exact ⟨ret_intbool (numX_no HN.out).symm HN.out.symm, rfl⟩
  · have he : ((bs l).toList == []) = false := by rw [bs_toList]; exact beq_eq_false_iff_ne.2 hz
    have h1 : 0 < (bs l).size := by rw [hsz]; exact List.length_pos_iff.2 hz
    have HG : Hid (∀ i (h : i < l.length) (h2 : i < (bs l).size), (bs l)[i]'h2 = l[i]'h) := hide (fun i h h2 => bs_get h)
    have HZ := hide hz
    have HL : Hid (ledN l = (decide (1 < l.length) && decide (((bs l)[0]'h1).toNat = 48))) := hide (by
      rw [bs_get (by omega)]
      unfold ledN
      congr 1
      rw [List.head?_eq_getElem?, List.getElem?_eq_getElem (by omega)]
      rw [Bool.eq_iff_iff]
      simp [← UInt8.toNat_inj])
    clear hz
    generalize bs l = s at *
    obtain ⟨c0, hc0, hcb0⟩ : ∃ c : Nat, (s[0]'h1).toNat = c ∧ c < 256 := ⟨_, rfl, (s[0]'h1).toNat_lt⟩
    rw [hc0] at HL
    by_cases hled : 1 < l.length ∧ c0 = 48
    · obtain ⟨hled, rfl⟩ := hled
      have HN : Hid (numOK l most = false) := hide (by unfold numOK; rw [HL.out, decide_eq_true hled]; simp)
      go_enter Try.func61, Try.ntmps61
      go_wp2_with fail
      all_goals
        go_ret2
        exact ⟨ret_intbool (numX_no HN.out).symm HN.out.symm, rfl⟩
    · have HF : Hid (ledN l = false) := hide (by
        rw [HL.out]; simp only [Bool.and_eq_false_iff, decide_eq_false_iff_not]; omega)
      have key : l.length ≤ 1 ∨ (1 < l.length ∧ ((c0 : Int) == 48) = false) := by
        by_cases h : l.length ≤ 1
        · exact .inl h
        · exact .inr ⟨by omega, by rw [beq_eq_false_iff_ne]; omega⟩
      clear hled
      rcases key with hk | ⟨hk, hk2⟩
      all_goals
        go_enter Try.func61, Try.ntmps61
        go_wp2_with fail
        go_loop [6, 23] (fun n t => ∃ i : Nat, i ≤ l.length ∧ t = .int .i64 i ∧ n = .int .i64 (numV (l.take i)) ∧ Hid ((l.take i).all dgt = true) ∧ 0 ≤ numV (l.take i) ∧ numV (l.take i) ≤ most) (fun _ t => l.length - (intOf t).toNat)
        case atStart => exact ⟨0, by omega, rfl, rfl, hide rfl, by simp [numV], by simp [numV]; omega⟩
        case round =>
          obtain ⟨i, hi, rfl, rfl, HD, hn0, hn1⟩ := hrel
          by_cases hlt : i < l.length
          · have hs2 : i < s.size := by omega
            obtain ⟨c, hc, HC⟩ : ∃ c : Int, ((s[i]'hs2).toNat : Int) = c ∧ Hid (c = (l[i].toNat : Int)) := ⟨_, rfl, hide (by rw [HG.out i hlt hs2])⟩
            have hcb : 0 ≤ c ∧ c ≤ 255 := by rw [HC.out]; have := l[i].toNat_lt; omega
            have HT : Hid (numV (l.take (i + 1)) = numV (l.take i) * 10 + (c - 48)) := hide (by rw [numV_take l i hlt, HC.out])
            generalize numV (l.take i) = x at *
            by_cases hdg : 48 ≤ c ∧ c ≤ 57
            · obtain ⟨hd1, hd2⟩ := hdg
              have HD2 : Hid ((l.take (i + 1)).all dgt = true) := hide (all_succ hlt HD.out (dgt_iff.2 (by have := HC.out; omega)))
              by_cases hbig : x * 10 + (c - 48) ≤ most
              · go_wp2_with fail
                exact ⟨⟨i + 1, by omega, by go_num, by rw [HT.out], HD2, by rw [HT.out]; omega, by rw [HT.out]; omega⟩, by simp [intOf]; omega⟩
              · have HN : Hid (numOK l most = false) := hide (numOK_more (k := i + 1) (by omega) (by rw [HT.out]; omega))
                have hbig2 : most < x * 10 + (c - 48) := by omega
                clear hbig
                go_wp2_with fail
                go_ret2
                exact ⟨ret_intbool (numX_no HN.out).symm HN.out.symm, rfl⟩
            · have HN : Hid (numOK l most = false) := hide (numOK_nodigit (k := i) hlt (by
                cases e : dgt l[i] with
                | false => rfl
                | true => exact absurd (dgt_iff.1 e) (by have := HC.out; omega)))
              by_cases hd1 : c < 48
              · clear hdg
                go_wp2_with fail
                all_goals
                  go_ret2
                  exact ⟨ret_intbool (numX_no HN.out).symm HN.out.symm, rfl⟩
              · have hd2 : 57 < c := by omega
                have hd3 : 48 ≤ c := by omega
                clear hdg hd1
                go_wp2_with fail
                all_goals
                  go_ret2
                  exact ⟨ret_intbool (numX_no HN.out).symm HN.out.symm, rfl⟩
          · have hi' : i = l.length := by omega
            subst hi'
            rw [List.take_length] at hn0 hn1 HD ⊢
            have HN : Hid (numOK l most = true) := hide (by
              unfold numOK
              rw [HF.out, HD.out, decide_eq_true hn1]
              cases l with
              | nil => exact absurd rfl HZ.out
              | cons => rfl)
            generalize hx : numV l = x at *
            have HX := hide hx
            clear hx
            go_wp2_with fail
            go_ret2
            exact ⟨ret_intbool (by rw [numX_yes HN.out, HX.out]) HN.out.symm, rfl⟩

theorem dgx {x : UInt8} (hx : dgt x = true) : dg ((x.toNat : Int) - 48) = x := by
  have := dgt_iff.1 hx
  apply UInt8.toNat_inj.1
  unfold dg
  rw [UInt8.toNat_ofNat']
  omega
theorem numV_bd (l : List UInt8) (h : l.all dgt = true) : ∀ k, k ≤ l.length → 0 ≤ numV (l.take k) ∧ numV (l.take k) < 10 ^ k
  | 0, _ => by simp [numV]
  | k + 1, hk => by
    have ih := numV_bd l h k (by omega)
    have hd := dgt_iff.1 (List.all_eq_true.1 h l[k] (List.getElem_mem _))
    rw [numV_take l k (by omega), Int.pow_succ]
    omega
theorem numV_pos (l : List UInt8) (h : l.all dgt = true) (h0 : l ≠ []) (hf : l.head? ≠ some 48) : ∀ k, k < l.length → 1 ≤ numV (l.take (k + 1))
  | 0, hk => by
    cases l with
    | nil => simp at hk
    | cons a r =>
      have hd := dgt_iff.1 (List.all_eq_true.1 h a (by simp))
      have hne : a.toNat ≠ 48 := fun e => hf (by simp; exact UInt8.toNat_inj.1 e)
      simp [numV]
      omega
  | k + 1, hk => by
    have ih := numV_pos l h h0 hf k (by omega)
    have hd := dgt_iff.1 (List.all_eq_true.1 h l[k + 1] (List.getElem_mem _))
    rw [numV_take l (k + 1) hk]
    omega
theorem decG_take (l : List UInt8) (h : l.all dgt = true) (h0 : l ≠ []) (hf : ledN l = false) : ∀ k, k < l.length → (k + 1 = 1 ∨ l.head? ≠ some 48) → (decG (numV (l.take (k + 1))).toNat).toList = l.take (k + 1)
  | 0, hk, _ => by
    have hd := List.all_eq_true.1 h l[0] (List.getElem_mem _)
    have hb := dgt_iff.1 hd
    have e : l.take 1 = [l[0]] := by
      cases l with
      | nil => simp at hk
      | cons a r => rfl
    rw [e]
    have e2 : numV [l[0]] = (l[0].toNat : Int) - 48 := by simp [numV]
    rw [e2, decG_small _ (by omega), ByteArray.toList_eq]
    rw [show ((((l[0].toNat : Int) - 48).toNat : Nat) : Int) = (l[0].toNat : Int) - 48 by omega, dgx hd]
  | k + 1, hk, hh => by
    have hne : l.head? ≠ some 48 := by
      rcases hh with h1 | h1
      · omega
      · exact h1
    have ih := decG_take l h h0 hf k (by omega) (.inr hne)
    have hp := numV_pos l h h0 hne k (by omega)
    have hd := List.all_eq_true.1 h l[k + 1] (List.getElem_mem _)
    have hb := dgt_iff.1 hd
    have e := numV_take l (k + 1) hk
    rw [decG_big _ (by rw [e]; omega)]
    rw [show (numV (l.take (k + 1 + 1))).toNat / 10 = (numV (l.take (k + 1))).toNat by rw [e]; omega]
    rw [show (((numV (l.take (k + 1 + 1))).toNat : Nat) : Int) % 10 = (l[k + 1].toNat : Int) - 48 by rw [e]; omega, dgx hd]
    rw [ByteArray.toList_eq, ByteArray.data_append, Array.toList_append, ← ByteArray.toList_eq, ih]
    show l.take (k + 1) ++ [l[k + 1]] = _
    rw [List.take_succ_eq_append_getElem hk]
theorem dec_digitsG (l : List UInt8) (h0 : l ≠ []) (h3 : l.length ≤ 17) (h : l.all dgt = true) : 0 ≤ numV l ∧ numV l < 10 ^ l.length ∧ ((decG (numV l).toNat).toList == l) = !ledN l := by
  have hb := numV_bd l h l.length (Nat.le_refl _)
  rw [List.take_length] at hb
  refine ⟨hb.1, hb.2, ?_⟩
  have hpos : 0 < l.length := List.length_pos_iff.2 h0
  cases hl : ledN l with
  | false =>
    have hk := decG_take l h h0 hl (l.length - 1) (by omega) (by
      by_cases h1 : l.length = 1
      · exact .inl (by omega)
      · refine .inr fun hh => ?_
        unfold ledN at hl
        rw [hh, decide_eq_true (by omega)] at hl
        simp at hl)
    rw [show l.length - 1 + 1 = l.length by omega, List.take_length] at hk
    rw [hk]
    simp
  | true =>
    unfold ledN at hl
    simp only [Bool.and_eq_true, decide_eq_true_eq, beq_iff_eq] at hl
    obtain ⟨h1, h2⟩ := hl
    cases l with
    | nil => simp at h0
    | cons a r =>
      have ea : a = 48 := by simpa using h2
      subst ea
      have er : numV (48 :: r) = numV r := by unfold numV; rfl
      have hr := numV_bd r (by rw [List.all_cons] at h; exact (Bool.and_eq_true _ _ |>.mp h).2) r.length (Nat.le_refl _)
      rw [List.take_length] at hr
      have hrl : 1 ≤ r.length := by simp at h1; omega
      have hs := decG_size (r.length - 1) (numV r).toNat (by
        rw [show r.length - 1 + 1 = r.length by omega]
        have : (((numV r).toNat : Nat) : Int) < ((10 ^ r.length : Nat) : Int) := by push_cast; omega
        exact_mod_cast this)
      rw [er]
      have hne : (decG (numV r).toNat).toList ≠ 48 :: r := fun e => by
        have := congrArg List.length e
        rw [ByteArray.toList_eq, Array.length_toList] at this
        have e3 : (decG (numV r).toNat).data.size = (decG (numV r).toNat).size := rfl
        rw [e3] at this
        simp at this
        omega
      simpa using hne

def AllD (l : List UInt8) : Prop := l.all dgt = true
theorem numF_nodigit {l : List UInt8} {m k : Nat} (h : k < l.length) (h1 : dgt l[k] = false) : numF l m = false := by
  unfold numF; rw [all_not h h1]; simp
set_option maxHeartbeats 1000000 in
theorem number_walk (l : List UInt8) (m : Nat) (w : World) (hl : l.length ≤ 1048576) (hm : m ≤ 3) :
    Calls Try.prog 28 #[.string (bs l), .int .i64 m] w fun e w' => ∃ n : Int, e = .returned (.tuple #[.int .i64 n, .bool (numF l m)]) ∧ (numF l m = true → n = numV l) ∧ Below w.heap.size w w' := by
  have hsz := bs_size l
  by_cases hz : l.length < 1
  · have HN : Hid (numF l m = false) := hide (by have : l = [] := List.length_eq_zero_iff.1 (by omega); rw [this]; rfl)
    generalize bs l = s at *
    go_enter Try.func28, Try.ntmps28
    go_wp2_with fail
    all_goals
      go_ret2
      exact ⟨0, ret_intbool rfl HN.out.symm, fun h => (by rw [HN.out] at h; cases h), Below.refl _ _⟩
  · by_cases hbig : m < l.length
    · have HN : Hid (numF l m = false) := hide (by unfold numF; rw [decide_eq_false (by omega)]; simp)
      generalize bs l = s at *
      go_enter Try.func28, Try.ntmps28
      go_wp2_with fail
      all_goals
        go_ret2
        exact ⟨0, ret_intbool rfl HN.out.symm, fun h => (by rw [HN.out] at h; cases h), Below.refl _ _⟩
    · have h1 : 1 ≤ l.length := by omega
      have h2 : l.length ≤ m := by omega
      clear hz hbig hl
      have HG : Hid (∀ i (h : i < l.length) (h2 : i < (bs l).size), (bs l)[i]'h2 = l[i]'h) := hide (fun i h h2 => bs_get h)
      have HTL : Hid ((bs l).toList = l) := hide (bs_toList l)
      generalize bs l = s at *
      go_enter Try.func28, Try.ntmps28
      go_wp2_with fail
      go_loop [6, 7] (fun n t => ∃ i : Nat, i ≤ l.length ∧ t = .int .i64 i ∧ n = .int .i64 (numV (l.take i)) ∧ Hid (AllD (l.take i)) ∧ 0 ≤ numV (l.take i) ∧ numV (l.take i) ≤ 1000000) (fun _ t => l.length - (intOf t).toNat)
      case atStart => exact ⟨0, by omega, rfl, rfl, hide rfl, by simp [numV], by simp [numV]⟩
      case round =>
        obtain ⟨i, hi, rfl, rfl, HD, hn0, hn1⟩ := hrel
        by_cases hlt : i < l.length
        · have hs2 : i < s.size := by omega
          obtain ⟨c, hc, HC⟩ : ∃ c : Int, ((s[i]'hs2).toNat : Int) = c ∧ Hid (c = (l[i].toNat : Int)) := ⟨_, rfl, hide (by rw [HG.out i hlt hs2])⟩
          have hcb : 0 ≤ c ∧ c ≤ 255 := by rw [HC.out]; have := l[i].toNat_lt; omega
          have HT : Hid (numV (l.take (i + 1)) = numV (l.take i) * 10 + (c - 48)) := hide (by rw [numV_take l i hlt, HC.out])
          by_cases hdg : 48 ≤ c ∧ c ≤ 57
          · obtain ⟨hd1, hd2⟩ := hdg
            have HD2 : Hid (AllD (l.take (i + 1))) := hide (all_succ hlt HD.out (dgt_iff.2 (by have := HC.out; omega)))
            have HB : Hid (numV (l.take (i + 1)) ≤ 1000000) := hide (by
              have h4 := (dec_digits (l.take (i + 1)) (by intro e; have := congrArg List.length e; rw [List.length_take, List.length_nil] at this; omega) (by rw [List.length_take]; omega) HD2.out).2.1
              omega)
            generalize numV (l.take i) = x at *
            go_wp2_with fail
            exact ⟨⟨_, _, .int .i64 (x * 10 + (c - 48)), .int .i64 ((i : Int) + 1), ⟨i + 1, by omega, by go_num, by rw [HT.out], HD2, by rw [HT.out]; omega, HB.out⟩, rfl, rfl, rfl, rfl⟩, by simp [intOf]; omega⟩
          · have HN : Hid (numF l m = false) := hide (numF_nodigit (k := i) hlt (by
              cases e : dgt l[i] with
              | false => rfl
              | true => exact absurd (dgt_iff.1 e) (by have := HC.out; omega)))
            generalize numV (l.take i) = x at *
            by_cases hd1 : c < 48
            · clear hdg
              go_wp2_with fail
              all_goals
                go_ret2
                exact ⟨0, ret_intbool rfl HN.out.symm, fun h => (by rw [HN.out] at h; cases h), Below.refl _ _⟩
            · have hd2 : 57 < c := by omega
              have hd3 : 48 ≤ c := by omega
              clear hdg hd1
              go_wp2_with fail
              all_goals
                go_ret2
                exact ⟨0, ret_intbool rfl HN.out.symm, fun h => (by rw [HN.out] at h; cases h), Below.refl _ _⟩
        · have hi' : i = l.length := by omega
          subst hi'
          rw [List.take_length] at hn0 hn1 HD ⊢
          have hd := dec_digits l (by intro e; rw [e] at h1; simp at h1) (by omega) HD.out
          have HF : Hid (numF l m = !ledN l) := hide (by
            unfold numF
            rw [HD.out, decide_eq_true h2]
            cases l with
            | nil => simp at h1
            | cons => rfl)
          have hx3 := hd.2.1
          have HQ : Hid ((ByteArray.toList ⟨decL (numV l)⟩ == s.toList) = numF l m) := hide (by
            rw [ByteArray.toList_eq, HTL.out, HF.out]; exact hd.2.2)
          clear hd
          generalize hx : numV l = x at *
          have HX := hide hx
          clear hx
          go_wp2_with (go_at_call 51; refine (dec_walk _ _ (by omega) (by omega)).mono ?_; rintro e w' ⟨rfl, hb⟩)
          go_ret2
          exact ⟨x, ret_intbool rfl HQ.out, fun _ => HX.out.symm ▸ rfl, hb⟩

theorem pow10_le {k : Nat} (h : k ≤ 7) : (10 : Int) ^ k ≤ 10000000 := by
  match k, h with
  | 0, _ => decide
  | 1, _ => decide
  | 2, _ => decide
  | 3, _ => decide
  | 4, _ => decide
  | 5, _ => decide
  | 6, _ => decide
  | 7, _ => decide
theorem pow10_7 : (10 : Nat) ^ (6 + 1) = 10000000 := by decide
set_option maxHeartbeats 1000000 in
theorem numberG_walk (l : List UInt8) (m : Nat) (w : World) (hl : l.length ≤ 1048576) (hm : m ≤ 7) :
    Calls Try.prog 28 #[.string (bs l), .int .i64 m] w fun e w' => ∃ n : Int, e = .returned (.tuple #[.int .i64 n, .bool (numF l m)]) ∧ (numF l m = true → n = numV l) ∧ Below w.heap.size w w' := by
  have hsz := bs_size l
  by_cases hz : l.length < 1
  · have HN : Hid (numF l m = false) := hide (by have : l = [] := List.length_eq_zero_iff.1 (by omega); rw [this]; rfl)
    generalize bs l = s at *
    go_enter Try.func28, Try.ntmps28
    go_wp2_with fail
    all_goals
      go_ret2
      exact ⟨0, ret_intbool rfl HN.out.symm, fun h => (by rw [HN.out] at h; cases h), Below.refl _ _⟩
  · by_cases hbig : m < l.length
    · have HN : Hid (numF l m = false) := hide (by unfold numF; rw [decide_eq_false (by omega)]; simp)
      generalize bs l = s at *
      go_enter Try.func28, Try.ntmps28
      go_wp2_with fail
      all_goals
        go_ret2
        exact ⟨0, ret_intbool rfl HN.out.symm, fun h => (by rw [HN.out] at h; cases h), Below.refl _ _⟩
    · have h1 : 1 ≤ l.length := by omega
      have h2 : l.length ≤ m := by omega
      clear hz hbig hl
      have HG : Hid (∀ i (h : i < l.length) (h2 : i < (bs l).size), (bs l)[i]'h2 = l[i]'h) := hide (fun i h h2 => bs_get h)
      have HTL : Hid ((bs l).toList = l) := hide (bs_toList l)
      generalize bs l = s at *
      go_enter Try.func28, Try.ntmps28
      go_wp2_with fail
      go_loop [6, 7] (fun n t => ∃ i : Nat, i ≤ l.length ∧ t = .int .i64 i ∧ n = .int .i64 (numV (l.take i)) ∧ Hid (AllD (l.take i)) ∧ 0 ≤ numV (l.take i) ∧ numV (l.take i) ≤ 10000000) (fun _ t => l.length - (intOf t).toNat)
      case atStart => exact ⟨0, by omega, rfl, rfl, hide rfl, by simp [numV], by simp [numV]⟩
      case round =>
        obtain ⟨i, hi, rfl, rfl, HD, hn0, hn1⟩ := hrel
        by_cases hlt : i < l.length
        · have hs2 : i < s.size := by omega
          obtain ⟨c, hc, HC⟩ : ∃ c : Int, ((s[i]'hs2).toNat : Int) = c ∧ Hid (c = (l[i].toNat : Int)) := ⟨_, rfl, hide (by rw [HG.out i hlt hs2])⟩
          have hcb : 0 ≤ c ∧ c ≤ 255 := by rw [HC.out]; have := l[i].toNat_lt; omega
          have HT : Hid (numV (l.take (i + 1)) = numV (l.take i) * 10 + (c - 48)) := hide (by rw [numV_take l i hlt, HC.out])
          by_cases hdg : 48 ≤ c ∧ c ≤ 57
          · obtain ⟨hd1, hd2⟩ := hdg
            have HD2 : Hid (AllD (l.take (i + 1))) := hide (all_succ hlt HD.out (dgt_iff.2 (by have := HC.out; omega)))
            have HB : Hid (numV (l.take (i + 1)) ≤ 10000000) := hide (by
              have h4 := (numV_bd (l.take (i + 1)) HD2.out (l.take (i + 1)).length (Nat.le_refl _)).2
              rw [List.take_length] at h4
              have h5 := pow10_le (k := (l.take (i + 1)).length) (by rw [List.length_take]; omega)
              omega)
            generalize numV (l.take i) = x at *
            go_wp2_with fail
            exact ⟨⟨_, _, .int .i64 (x * 10 + (c - 48)), .int .i64 ((i : Int) + 1), ⟨i + 1, by omega, by go_num, by rw [HT.out], HD2, by rw [HT.out]; omega, HB.out⟩, rfl, rfl, rfl, rfl⟩, by simp [intOf]; omega⟩
          · have HN : Hid (numF l m = false) := hide (numF_nodigit (k := i) hlt (by
              cases e : dgt l[i] with
              | false => rfl
              | true => exact absurd (dgt_iff.1 e) (by have := HC.out; omega)))
            generalize numV (l.take i) = x at *
            by_cases hd1 : c < 48
            · clear hdg
              go_wp2_with fail
              all_goals
                go_ret2
                exact ⟨0, ret_intbool rfl HN.out.symm, fun h => (by rw [HN.out] at h; cases h), Below.refl _ _⟩
            · have hd2 : 57 < c := by omega
              have hd3 : 48 ≤ c := by omega
              clear hdg hd1
              go_wp2_with fail
              all_goals
                go_ret2
                exact ⟨0, ret_intbool rfl HN.out.symm, fun h => (by rw [HN.out] at h; cases h), Below.refl _ _⟩
        · have hi' : i = l.length := by omega
          subst hi'
          rw [List.take_length] at hn0 hn1 HD ⊢
          have hd := dec_digitsG l (by intro e; rw [e] at h1; simp at h1) (by omega) HD.out
          have HF : Hid (numF l m = !ledN l) := hide (by
            unfold numF
            rw [HD.out, decide_eq_true h2]
            cases l with
            | nil => simp at h1
            | cons => rfl)
          have hx3 : numV l < 10000000 := by
            have h5 := pow10_le (k := l.length) (by omega)
            have := hd.2.1
            omega
          have HQ : Hid (((decG (numV l).toNat).toList == s.toList) = numF l m) := hide (by
            rw [HTL.out, HF.out]; exact hd.2.2)
          clear hd
          generalize hx : numV l = x at *
          have HX := hide hx
          clear hx
          have CD := hide (fun W => decG_walk 6 x.toNat (by rw [pow10_7]; omega) (by omega) W)
          rw [show ((x.toNat : Nat) : Int) = x by omega] at CD
          go_wp2_with (go_at_call 51; refine (CD.out _).mono ?_; rintro e w' ⟨rfl, hb⟩)
          go_ret2
          exact ⟨x, ret_intbool rfl HQ.out, fun _ => HX.out.symm ▸ rfl, hb⟩

/-- A text cut at every byte of one value. -/
def splitL (c : UInt8) : List UInt8 → List (List UInt8)
  | [] => [[]]
  | x :: xs => if x = c then [] :: splitL c xs else (x :: (splitL c xs).headD []) :: (splitL c xs).tail
theorem split_no (c : UInt8) : ∀ a : List UInt8, c ∉ a → splitL c a = [a]
  | [], _ => rfl
  | x :: xs, h => by
    have h1 : ¬ x = c := fun e => h (by rw [e]; simp)
    have ih := split_no c xs (fun e => h (by simp [e]))
    rw [splitL, if_neg h1, ih]; rfl
theorem split_yes (c : UInt8) (b : List UInt8) : ∀ a : List UInt8, c ∉ a → splitL c (a ++ c :: b) = a :: splitL c b
  | [], _ => by rw [List.nil_append, splitL, if_pos rfl]
  | x :: xs, h => by
    have h1 : ¬ x = c := fun e => h (by rw [e]; simp)
    have ih := split_yes c b xs (fun e => h (by simp [e]))
    rw [List.cons_append, splitL, if_neg h1, ih]; rfl
theorem cut_at (l : List UInt8) (f i : Nat) (hf : f ≤ i) (hi : i < l.length) : l.drop f = (l.drop f).take (i - f) ++ l[i] :: l.drop (i + 1) := by
  rw [← List.drop_eq_getElem_cons hi]
  conv => lhs; rw [← List.take_append_drop (i - f) (l.drop f)]
  rw [List.drop_drop, show f + (i - f) = i by omega]
theorem notin_more {l : List UInt8} {c : UInt8} {f i : Nat} (hf : f ≤ i) (hi : i < l.length) (h : c ∉ (l.drop f).take (i - f)) (hx : ¬ l[i] = c) : c ∉ (l.drop f).take (i + 1 - f) := by
  rw [show i + 1 - f = (i - f) + 1 by omega, List.take_succ_eq_append_getElem (by rw [List.length_drop]; omega)]
  intro e
  rcases List.mem_append.1 e with e | e
  · exact h e
  · simp only [List.mem_singleton, List.getElem_drop] at e
    have : l[f + (i - f)]'(by omega) = l[i] := by congr 1; omega
    rw [this] at e; exact hx e.symm

def sval (ps : List (List UInt8)) : List Value := ps.map (fun l => Value.string (bs l))
theorem sval_len (ps : List (List UInt8)) : (sval ps).length = ps.length := by unfold sval; rw [List.length_map]
/-- A slice of texts in memory of this call's own, from block B on. -/
def OwnS (w : World) (B : Nat) (v : Value) (ps : List (List UInt8)) : Prop := w.ownsRow B 9 1 v ps.length (sval ps)
theorem oneCellsS (ps : List (List UInt8)) : ∀ u ∈ sval ps, u.oneCell' = true := by
  intro u hu
  unfold sval at hu
  obtain ⟨z, _, rfl⟩ := List.mem_map.1 hu
  rfl
theorem OwnS.app {w : World} {B : Nat} {v : Value} {ps qs : List (List UInt8)} {n : Nat} (h : w.ownsRow B 9 1 v n (sval ps ++ sval qs)) (hn : n = ps.length + qs.length) : OwnS w B v (ps ++ qs) := by
  have e : sval (ps ++ qs) = sval ps ++ sval qs := by unfold sval; rw [List.map_append]
  unfold OwnS
  rw [e, List.length_append, ← hn]; exact h
theorem cell_oneS (w : World) (s : ByteArray) (p : List UInt8) (t : Nat) (hs : s = bs p) : ∀ j u, (sval [p])[j]? = some u → (w.alloc (.cells #[.string s] t)).cell? ((⟨w.heap.size, 0, none⟩ : Addr).add j) = some u := by
  intro j u hu
  match j with
  | 0 =>
    simp [sval] at hu
    subst hu
    rw [Addr.add_lit, ← hs]
    exact cell_of_row _ w.heap.size 0 _ t (0, 0) (heap_alloc_new w _)
  | k + 1 => simp [sval] at hu
set_option maxHeartbeats 1000000 in
theorem l02Cut_walk (l : List UInt8) (c : UInt8) (w : World) (hl : l.length ≤ 1048576) :
    Calls Try.prog 24 #[.string (bs l), .int .u8 (c.toNat : Int)] w fun e w' => ∃ v : Value, e = .returned v ∧ OwnS w' w.heap.size v (splitL c l) ∧ Below w.heap.size w w' := by
  obtain ⟨i, hi, hz0, hz1, hz2⟩ := info_parts Try.infoS
  have HI := hide hi
  have HZ0 := hide hz0
  have HZ1 := hide hz1
  have HZ2 := hide hz2
  clear hi hz0 hz1 hz2
  have hsz := bs_size l
  have HG : Hid (∀ i (h : i < l.length) (h2 : i < (bs l).size), (bs l)[i]'h2 = l[i]'h) := hide (fun i h h2 => bs_get h)
  have HX : Hid (∀ a b, (bs l).extract a b = bs ((l.drop a).take (b - a))) := hide (bs_extract l)
  obtain ⟨cc, hcc, HCC⟩ : ∃ x : Int, (c.toNat : Int) = x ∧ Hid (x = (c.toNat : Int)) := ⟨_, rfl, hide rfl⟩
  have hccb : 0 ≤ cc ∧ cc ≤ 255 := by rw [← hcc]; have := c.toNat_lt; omega
  rw [hcc]
  clear hcc
  generalize bs l = s at *
  go_enter Try.func24, Try.ntmps24
  go_wp2_with fail
  have hst : OwnS (w.alloc (.cells #[] 9)) w.heap.size (.slice (some ⟨w.heap.size, 0, none⟩) 0 0) [] :=
    World.ownsRow_lit (base := w.heap.size) (e := 9) (size := 1) w #[] 0 (Nat.le_refl _) (by decide) rfl
  have HST := hide hst
  have hb0 := (Below.refl w.heap.size w).alloc (Nat.le_refl _) (.cells #[] 9)
  clear hst
  generalize w.alloc (.cells #[] 9) = W at *
  go_loopw [5, 6, 7] (fun o f t w2 => ∃ (k g : Nat) (ps : List (List UInt8)), k ≤ l.length ∧ g ≤ k ∧ t = .int .i64 k ∧ f = .int .i64 g ∧ ps.length ≤ k ∧ Hid (OwnS w2 w.heap.size o ps) ∧ Below w.heap.size w w2 ∧ Hid (splitL c l = ps ++ splitL c (l.drop g)) ∧ Hid (c ∉ (l.drop g).take (k - g))) (fun _ _ t _ => l.length - (intOf t).toNat)
  case atStart => exact ⟨0, 0, [], by omega, by omega, rfl, rfl, by simp, HST, hb0, hide rfl, hide (by simp)⟩
  case round =>
    obtain ⟨k, g, ps, hk, hg, rfl, rfl, hps, HO, hb, HS, HN⟩ := hrel
    clear hb0
    by_cases hlt : k < l.length
    · have hs2 : k < s.size := by omega
      obtain ⟨x, hx, HC⟩ : ∃ x : Int, ((s[k]'hs2).toNat : Int) = x ∧ Hid (x = (l[k].toNat : Int)) := ⟨_, rfl, hide (by rw [HG.out k hlt hs2])⟩
      have hxb : 0 ≤ x ∧ x ≤ 255 := by rw [HC.out]; have := l[k].toNat_lt; omega
      by_cases hxc : x = cc
      · have HL : Hid (l[k] = c) := hide (UInt8.toNat_inj.1 (by have := HC.out; have := HCC.out; omega))
        have HE := hide (HX.out g k)
        subst hxc
        go_wp2_with (first | (at_builtin; refine wpList_append_own _ rfl _ _ 35 rfl w.heap.size 9 i _ 1 16 Try.underlying35 HI.out HZ0.out HZ1.out HZ2.out rfl (by decide) u5 ps.length (sval ps) rfl (HO.out.alloc _) ⟨wr.heap.size, 0, none⟩ 1 1 (sval [(l.drop g).take (k - g)]) rfl rfl (cell_oneS _ _ _ _ HE.out) (oneCellsS _) (by unfold maxLen; omega) (by omega) (by have := hb.size; rw [World.size_alloc]; omega) ?_))
        intro v' w3 hown' hgrow hnil
        have hlo := HO.out.lt
        have HO3 := hide (OwnS.app hown' rfl)
        have hb3 : Below w.heap.size w w3 := (hb.alloc hb.size _).grown hgrow (by have := hb.size; rw [World.size_alloc]; omega) (fun k hk => (hlo k hk).1)
        have HS3 : Hid (splitL c l = (ps ++ [(l.drop g).take (k - g)]) ++ splitL c (l.drop (k + 1))) := hide (by
          rw [HS.out, List.append_assoc]
          congr 1
          conv => lhs; rw [cut_at l g k hg hlt, HL.out]
          exact split_yes c _ _ HN.out)
        clear hown' hnil hgrow hb hlo
        go_wp2_with fail
        exact ⟨⟨k + 1, k + 1, _, by omega, by omega, by go_num, by go_num, by rw [List.length_append]; show _ + 1 ≤ _; omega, HO3, hb3, HS3, hide (by simp)⟩, by simp [intOf]; omega⟩
      · have hxn : (x == cc) = false := beq_eq_false_iff_ne.2 hxc
        have HN2 : Hid (c ∉ (l.drop g).take (k + 1 - g)) := hide (notin_more hg hlt HN.out (fun e => hxc (by rw [HC.out, HCC.out, e])))
        clear hxc
        go_wp2_with fail
        exact ⟨⟨k + 1, g, ps, by omega, by omega, by go_num, rfl, by omega, HO, hb, HS, HN2⟩, by simp [intOf]; omega⟩
    · have hk' : k = l.length := by omega
      subst hk'
      have HE := hide (HX.out g l.length)
      have HTK : Hid ((l.drop g).take (l.length - g) = l.drop g) := hide (List.take_of_length_le (by rw [List.length_drop]; omega))
      have HS3 : Hid (splitL c l = ps ++ [l.drop g]) := hide (by
        rw [HS.out]; congr 1; apply split_no
        have := HN.out
        rw [List.take_of_length_le (by rw [List.length_drop]; omega)] at this
        exact this)
      go_wp2_with (first | (at_builtin; refine wpList_append_own _ rfl _ _ 35 rfl w.heap.size 9 i _ 1 16 Try.underlying35 HI.out HZ0.out HZ1.out HZ2.out rfl (by decide) u5 ps.length (sval ps) rfl (HO.out.alloc _) ⟨wr.heap.size, 0, none⟩ 1 1 (sval [l.drop g]) rfl rfl (cell_oneS _ _ _ _ (by rw [← HTK.out]; exact HE.out)) (oneCellsS _) (by unfold maxLen; omega) (by omega) (by have := hb.size; rw [World.size_alloc]; omega) ?_))
      intro v' w3 hown' hgrow hnil
      have hlo := HO.out.lt
      have HO3 := hide (OwnS.app hown' rfl)
      have hb3 : Below w.heap.size w w3 := (hb.alloc hb.size _).grown hgrow (by have := hb.size; rw [World.size_alloc]; omega) (fun k hk => (hlo k hk).1)
      clear hown' hnil hgrow hb hlo
      go_wp2_with fail
      go_ret
      exact ⟨v', rfl, by rw [HS3.out]; exact HO3.out, hb3⟩

/-- A slice of strings that can be read. -/
def ArrS (w : World) (a : Option Addr) (ps : List (List UInt8)) : Prop := ∀ j (hj : j < ps.length), ∃ b off, a = some ⟨b, off, none⟩ ∧ b < w.heap.size ∧ w.cell? ⟨b, off + j, none⟩ = some (.string (bs ps[j]))
theorem ArrS.below {B : Nat} {w w' : World} {a : Option Addr} {ps : List (List UInt8)} (h : ArrS w a ps) (hb : Below B w w') (hB : w.heap.size ≤ B) : ArrS w' a ps := by
  intro j hj
  obtain ⟨b, off, e, hlt, hc⟩ := h j hj
  exact ⟨b, off, e, Nat.lt_of_lt_of_le hlt hb.size, by rw [hb.cell (p := ⟨b, off + j, none⟩) (Nat.lt_of_lt_of_le hlt hB)]; exact hc⟩
theorem ArrS.drop {w : World} {b off : Nat} {ps : List (List UInt8)} (h : ArrS w (some ⟨b, off, none⟩) ps) (k : Nat) : ArrS w (some ⟨b, off + k, none⟩) (ps.drop k) := by
  intro j hj
  rw [List.length_drop] at hj
  obtain ⟨b', o', e, hlt, hc⟩ := h (k + j) (by omega)
  cases e
  refine ⟨b, off + k, rfl, hlt, ?_⟩
  rw [Nat.add_assoc, hc, List.getElem_drop]
theorem sls_from (b off n cap l : Nat) (hl : l ≤ n) (hn : n ≤ cap) : ∃ a' : Option Addr, (∀ w : World, (Instr.slice 35 (.slice (some ⟨b, off, none⟩) n cap) (some (.int .i64 (l : Int))) none none).run Try.prog w = .ok (.slice a' (n - l) (cap - l)) w) ∧ (l < cap → a' = some ⟨b, off + l, none⟩) := by
  have hs : ∀ w : World, (sizeOf (Try.prog.elem 35)).run Try.prog w = .ok 1 w := fun w => by kernel_rfl
  have he := fun w : World => run_slice_l (P := Try.prog) (w := w) 35 (some ⟨b, off, none⟩) n cap Try.underlying35 .i64 (l : Int) (by omega) (by omega)
  by_cases hc : l < cap
  · refine ⟨some ⟨b, off + l, none⟩, fun w => ?_, fun _ => rfl⟩
    rw [he, hs]
    have e2 : (cap : Int) - (l : Int) ≠ 0 := by omega
    simp [sliced, Result.andThen, Addr.add_lit]
    omega
  · refine ⟨some ⟨b, off, none⟩, fun w => ?_, fun h => absurd h hc⟩
    rw [he, hs]
    have e3 : cap = l := by omega
    have e4 : n = l := by omega
    subst e3 e4
    simp [sliced, Result.andThen]
set_option maxHeartbeats 2000000 in
theorem key_short (a : Option Addr) (n cap : Nat) (key : ByteArray) (w : World) (h : n < 2) :
    Calls Try.prog 26 #[.slice a n cap, .string key] w fun e w' => e = .returned (.tuple #[.string ⟨#[]⟩, .slice a n cap, .bool false]) ∧ w' = w := by
  have hi : (n : Int) < 2 := by omega
  go_enter Try.func26, Try.ntmps26
  go_wp2_with fail
  exact bodyPost_ret (v := .tuple #[.string ⟨#[]⟩, .slice a n cap, .bool false]) (by simp [results, Try.results26, go_sem]) rfl ⟨rfl, rfl⟩
set_option maxHeartbeats 2000000 in
theorem key_other (b off n cap : Nat) (p : ByteArray) (key : ByteArray) (w : World) (h : 2 ≤ n) (hc : w.cell? ⟨b, off, none⟩ = some (.string p)) (hk : (p.toList == key.toList) = false) :
    Calls Try.prog 26 #[.slice (some ⟨b, off, none⟩) n cap, .string key] w fun e w' => e = .returned (.tuple #[.string ⟨#[]⟩, .slice (some ⟨b, off, none⟩) n cap, .bool false]) ∧ w' = w := by
  have hi : ¬ (n : Int) < 2 := by omega
  have h0 : 0 < n := by omega
  have hk2 : (!p.toList == key.toList) = true := by rw [hk]; rfl
  go_enter Try.func26, Try.ntmps26
  go_wp2_with fail
  exact bodyPost_ret (v := .tuple #[.string ⟨#[]⟩, .slice (some ⟨b, off, none⟩) n cap, .bool false]) (by simp [results, Try.results26, go_sem]) rfl ⟨rfl, rfl⟩
set_option maxHeartbeats 2000000 in
theorem key_hit (b off n cap : Nat) (p q : ByteArray) (key : ByteArray) (w : World) (h : 2 ≤ n) (hn : n ≤ cap) (hc : w.cell? ⟨b, off, none⟩ = some (.string p)) (hc1 : w.cell? ⟨b, off + 1, none⟩ = some (.string q)) (hk : (p.toList == key.toList) = true) :
    Calls Try.prog 26 #[.slice (some ⟨b, off, none⟩) n cap, .string key] w fun e w' => ∃ a' : Option Addr, e = .returned (.tuple #[.string q, .slice a' (n - 2) (cap - 2), .bool true]) ∧ (2 < cap → a' = some ⟨b, off + 2, none⟩) ∧ Below w.heap.size w w' := by
  have hi : ¬ (n : Int) < 2 := by omega
  have h0 : 0 < n := by omega
  have h1 : 1 < n := by omega
  have hk2 : (!p.toList == key.toList) = false := by rw [hk]; rfl
  obtain ⟨a', hsl, ha'⟩ := sls_from b off n cap 2 h hn
  have hsl2 : ∀ w : World, (Instr.slice 35 (.slice (some ⟨b, off, none⟩) n cap) (some (.int .i64 2)) none none).run Try.prog w = .ok (.slice a' (n - 2) (cap - 2)) w := hsl
  clear hsl
  go_enter Try.func26, Try.ntmps26
  go_wp2_with fail
  go_quiet (fail)
  go_wp2
  exact bodyPost_ret (v := .tuple #[.string q, .slice a' (n - 2) (cap - 2), .bool true]) (by simp [results, Try.results26, go_sem]) rfl ⟨a', rfl, ha', below_drewN (Below.refl _ _) nq⟩
/-- A word and the one behind it, taken off the front. -/
def keyT (k : List UInt8) : List (List UInt8) → Option (List UInt8 × List (List UInt8))
  | x :: y :: r => if x = k then some (y, r) else none
  | _ => none
theorem key_walk (k : List UInt8) (ps : List (List UInt8)) (a : Option Addr) (n cap : Nat) (w : World) (hn : ps.length = n) (ha : ArrS w a ps) (hc : n ≤ cap) :
    Calls Try.prog 26 #[.slice a n cap, .string (bs k)] w fun e w' => ((keyT k ps = none ∧ e = .returned (.tuple #[.string ⟨#[]⟩, .slice a n cap, .bool false])) ∨ ∃ y r a', keyT k ps = some (y, r) ∧ e = .returned (.tuple #[.string (bs y), .slice a' (n - 2) (cap - 2), .bool true]) ∧ ArrS w a' r ∧ r.length = n - 2) ∧ Below w.heap.size w w' := by
  by_cases h2 : n < 2
  · refine (key_short a n cap (bs k) w h2).mono ?_
    rintro e w' ⟨rfl, rfl⟩
    refine ⟨.inl ⟨?_, rfl⟩, Below.refl _ _⟩
    match ps, hn with
    | [], _ => rfl
    | [x], _ => rfl
    | x :: y :: r, hn => simp at hn; omega
  · match ps, hn, ha with
    | x :: y :: r, hn, ha =>
      obtain ⟨b, off, e0, _, c0⟩ := ha 0 (by simp)
      subst e0
      obtain ⟨b', o', e1, _, c1⟩ := ha 1 (by simp)
      cases e1
      by_cases hx : x = k
      · refine (key_hit b off n cap (bs x) (bs y) (bs k) w (by omega) hc c0 c1 (by rw [hx]; simp)).mono ?_
        rintro e w' ⟨a', rfl, ha', hb⟩
        refine ⟨.inr ⟨y, r, a', (by show (if x = k then some (y, r) else none) = _; rw [if_pos hx]), rfl, ?_, by simp at hn; omega⟩, hb⟩
        by_cases h3 : 2 < cap
        · rw [ha' h3]
          exact ha.drop 2
        · have : r = [] := List.length_eq_zero_iff.1 (by simp at hn; omega)
          subst this
          intro j hj
          simp at hj
      · refine (key_other b off n cap (bs x) (bs k) w (by omega) c0 (by rw [bs_toList, bs_toList]; simpa using hx)).mono ?_
        rintro e w' ⟨rfl, rfl⟩
        exact ⟨.inl ⟨(by show (if x = k then some (y, r) else none) = _; rw [if_neg hx]), rfl⟩, Below.refl _ _⟩
    | [x], hn, _ => simp at hn; omega
    | [], hn, _ => simp at hn; omega

def adFold (ps : List (List UInt8)) : Int := ps.foldl (fun a p => a * 256 + numV p) 0
def okP (p : List UInt8) : Bool := numOK p 255
def adOK (l : List UInt8) : Bool := decide ((splitL 46 l).length = 4) && (splitL 46 l).all okP
def adX (l : List UInt8) : Int := if adOK l then adFold (splitL 46 l) else 0
def adC (l : List UInt8) : Int := if adOK l then 0 else 6
theorem adX_no {l : List UInt8} (h : adOK l = false) : adX l = 0 := by unfold adX; rw [h]; rfl
theorem adC_no {l : List UInt8} (h : adOK l = false) : adC l = 6 := by unfold adC; rw [h]; rfl
theorem adX_yes {l : List UInt8} (h : adOK l = true) : adX l = adFold (splitL 46 l) := by unfold adX; rw [h]; rfl
theorem adC_yes {l : List UInt8} (h : adOK l = true) : adC l = 0 := by unfold adC; rw [h]; rfl
theorem split_ne (c : UInt8) (l : List UInt8) : splitL c l ≠ [] := by
  cases l with
  | nil => simp [splitL]
  | cons x xs => unfold splitL; split <;> simp
theorem split_len (c : UInt8) : ∀ l : List UInt8, (splitL c l).flatten.length + (splitL c l).length = l.length + 1
  | [] => rfl
  | x :: xs => by
    have ih := split_len c xs
    unfold splitL
    split
    · simp only [List.flatten_cons, List.nil_append, List.length_cons]; omega
    · match h : splitL c xs, split_ne c xs with
      | p :: ps, _ =>
        rw [h] at ih
        simp only [List.headD_cons, List.tail_cons, List.flatten_cons, List.length_append, List.length_cons] at *
        omega
theorem ad_short {l : List UInt8} (h : adOK l = true) : l.length ≤ 15 := by
  unfold adOK at h
  simp only [Bool.and_eq_true, decide_eq_true_eq, List.all_eq_true] at h
  obtain ⟨h4, ha⟩ := h
  have hs := split_len 46 l
  match hp : splitL 46 l, h4, ha, hs with
  | [a, b, c, d], _, ha, hs =>
    have h1 := (numOK_len (ha a (by simp))).2.1
    have h2 := (numOK_len (ha b (by simp))).2.1
    have h3 := (numOK_len (ha c (by simp))).2.1
    have h4 := (numOK_len (ha d (by simp))).2.1
    simp only [List.flatten_cons, List.flatten_nil, List.append_nil, List.length_append, List.length_cons, List.length_nil] at hs
    omega
theorem adFold_take (ps : List (List UInt8)) (k : Nat) (h : k < ps.length) : adFold (ps.take (k + 1)) = adFold (ps.take k) * 256 + numV ps[k] := by
  unfold adFold; rw [List.take_succ_eq_append_getElem h, List.foldl_append]; rfl
theorem adFold_bd (ps : List (List UInt8)) : ∀ k, k ≤ ps.length → (ps.take k).all okP = true → 0 ≤ adFold (ps.take k) ∧ adFold (ps.take k) < 256 ^ k
  | 0, _, _ => by simp [adFold]
  | k + 1, hk, h => by
    rw [List.take_succ_eq_append_getElem (by omega), List.all_append, Bool.and_eq_true] at h
    have ih := adFold_bd ps k (by omega) h.1
    have := numOK_len (l := ps[k]) (by simpa [okP] using h.2)
    rw [adFold_take ps k (by omega), Int.pow_succ]
    omega
theorem allP_succ {ps : List (List UInt8)} {k : Nat} (h : k < ps.length) (h0 : (ps.take k).all okP = true) (h1 : okP ps[k] = true) : (ps.take (k + 1)).all okP = true := by
  rw [List.take_succ_eq_append_getElem h, List.all_append, h0]; simp [h1]
theorem ad_bad {l : List UInt8} {k : Nat} (h : k < (splitL 46 l).length) (h1 : okP (splitL 46 l)[k] = false) : adOK l = false := by
  unfold adOK
  cases e : (splitL 46 l).all okP with
  | false => simp
  | true =>
    rw [List.all_eq_true] at e
    have := e _ (List.getElem_mem h)
    rw [h1] at this; cases this
theorem pow256 {k : Nat} (h : k ≤ 4) : ((256 : Int) ^ k) ≤ 4294967296 := by
  match k, h with
  | 0, _ => decide
  | 1, _ => decide
  | 2, _ => decide
  | 3, _ => decide
  | 4, _ => decide

theorem OwnS.at {w : World} {B : Nat} {v : Value} {ps : List (List UInt8)} (h : OwnS w B v ps) (h0 : ps ≠ []) : ∃ g cap, v = .slice (some ⟨g, 0, none⟩) ps.length cap ∧ g < w.heap.size ∧ ∀ j (hj : j < ps.length), w.cell? ⟨g, j, none⟩ = some (.string (bs ps[j])) := by
  rcases h.2 with ⟨hv, hn⟩ | ⟨g, cap, cur, hv, hB, hg, hnc, hcm, hcs, htake⟩
  · exact absurd (List.length_eq_zero_iff.1 hn) h0
  · refine ⟨g, cap, hv, ?_, fun j hj => ?_⟩
    · by_cases hlt : g < w.heap.size
      · exact hlt
      · rw [Array.getElem?_eq_none (by omega)] at hg; cases hg
    · have hc := (hv ▸ h : w.ownsRow B 9 1 (.slice (some ⟨g, 0, none⟩) ps.length cap) ps.length (sval ps)).cellAt j (by omega)
      rw [hc]; unfold sval; rw [List.getElem?_map, List.getElem?_eq_getElem hj]; rfl
def AllP (ps : List (List UInt8)) : Prop := ps.all okP = true
theorem ret_pair {k l : IntKind} {a b c d : Int} (h : a = b) (h2 : c = d) : Ending.returned (.tuple #[.int k a, .int l c]) = .returned (.tuple #[.int k b, .int l d]) := by rw [h, h2]
set_option maxHeartbeats 1000000 in
theorem specAddr_walk (l : List UInt8) (w : World) (hl : l.length ≤ 1048576) :
    Calls Try.prog 27 #[.string (bs l)] w fun e w' => e = .returned (.tuple #[.int .i64 (adX l), .int .i64 (adC l)]) ∧ Below w.heap.size w w' := by
  have hsz := bs_size l
  by_cases hbig : 15 < l.length
  · have HN : Hid (adOK l = false) := hide (by
      cases e : adOK l with
      | false => rfl
      | true => exact absurd (ad_short e) (by omega))
    generalize bs l = s at *
    go_enter Try.func27, Try.ntmps27
    go_wp2_with fail
    go_ret2
    exact ⟨ret_pair (adX_no HN.out).symm (adC_no HN.out).symm, Below.refl _ _⟩
  · have hl15 : l.length ≤ 15 := by omega
    clear hbig hl
    have HC := hide (l02Cut_walk l 46 w (by omega))
    by_cases h4 : (splitL 46 l).length = 4
    · have H4 := hide h4
      have HBAD : Hid (∀ k (h : k < (splitL 46 l).length), okP (splitL 46 l)[k] = false → adOK l = false) := hide (fun k h => ad_bad h)
      have HOK : Hid ((splitL 46 l).all okP = true → adOK l = true) := hide (fun h => by unfold adOK; rw [h, decide_eq_true h4]; rfl)
      have HX : Hid (adOK l = true → adX l = adFold (splitL 46 l)) := hide adX_yes
      have HLN : Hid (∀ p ∈ splitL 46 l, p.length ≤ 1048576) := hide (fun p hp => by
        have h1 := split_len 46 l
        have h2 := List.Sublist.length_le (List.sublist_flatten_of_mem hp)
        omega)
      have HNE := hide (split_ne 46 l)
      clear h4
      generalize bs l = s at *
      generalize splitL 46 l = ps at *
      go_enter Try.func27, Try.ntmps27
      go_wp2_with (go_at_call 24; refine HC.out.mono ?_; rintro e w1 ⟨v, rfl, hown, hb1⟩; obtain ⟨g, cap, rfl, hg, hcell⟩ := hown.at HNE.out; have HCL := hide hcell; clear hcell hown; rw [H4.out])
      go_loopw [5, 6] (fun a t w2 => ∃ i : Nat, i ≤ 4 ∧ t = .int .i64 i ∧ a = .int .i64 (adFold (ps.take i)) ∧ Hid (AllP (ps.take i)) ∧ 0 ≤ adFold (ps.take i) ∧ adFold (ps.take i) < 4294967296 ∧ Below w1.heap.size w1 w2) (fun _ t _ => 4 - (intOf t).toNat)
      case atStart => exact ⟨0, by omega, rfl, rfl, hide rfl, by simp [adFold], by simp [adFold], Below.refl _ _⟩
      case round =>
        obtain ⟨i, hi, rfl, rfl, HD, hn0, hn1, hb2⟩ := hrel
        by_cases hlt : i < 4
        · have hi4 : i < ps.length := by rw [H4.out]; exact hlt
          have hcc : wr.cell? ⟨g, i, none⟩ = some (.string (bs ps[i])) := by rw [hb2.cell (p := ⟨g, i, none⟩) hg]; exact HCL.out i hi4
          have HNW := hide (number_walk ps[i] 3 wr (HLN.out _ (List.getElem_mem hi4)) (by omega))
          have HFT := hide (adFold_take ps i hi4)
          have HO3 := hide (numOK_F3 ps[i])
          have HBK := hide (HBAD.out i hi4)
          by_cases hf : numF ps[i] 3 = true
          · by_cases h255 : numV ps[i] ≤ 255
            · have HP : Hid (okP ps[i] = true) := hide (by unfold okP; rw [← HO3.out, hf, decide_eq_true h255]; rfl)
              have HD2 : Hid (AllP (ps.take (i + 1))) := hide (allP_succ hi4 HD.out HP.out)
              have hbd := adFold_bd ps (i + 1) (by omega) HD2.out
              have hp := pow256 (k := i + 1) (by omega)
              have hv0 := (numOK_len HP.out).2.2.1
              have HB0 : Hid (0 ≤ adFold (ps.take (i + 1)) ∧ adFold (ps.take (i + 1)) < 4294967296) := hide ⟨hbd.1, by omega⟩
              have HF := hide hf
              clear hbd hp hf
              generalize adFold (ps.take i) = x at *
              generalize numV ps[i] = y at *
              generalize bs ps[i] = sp at *
              go_wp2_with (go_at_call 28; refine HNW.out.mono ?_; rintro e w3 ⟨n, rfl, hn, hb3⟩; rw [HF.out] at *; have hn2 := hn rfl; subst hn2; clear hn)
              exact ⟨⟨i + 1, by omega, by go_num, by rw [HFT.out], HD2, HB0.out.1, HB0.out.2, hb2.trans (hb3.mono hb2.size)⟩, by simp [intOf]; omega⟩
            · have HN : Hid (adOK l = false) := hide (HBK.out (by unfold okP; rw [← HO3.out, decide_eq_false h255]; simp))
              have h256 : 255 < numV ps[i] := by omega
              have HF := hide hf
              clear hf h255
              generalize adFold (ps.take i) = x at *
              generalize numV ps[i] = y at *
              generalize bs ps[i] = sp at *
              go_wp2_with (go_at_call 28; refine HNW.out.mono ?_; rintro e w3 ⟨n, rfl, hn, hb3⟩; rw [HF.out] at *; have hn2 := hn rfl; subst hn2; clear hn)
              go_ret2
              exact ⟨ret_pair (adX_no HN.out).symm (adC_no HN.out).symm, (hb1.trans (hb2.mono hb1.size)).trans (hb3.mono (Nat.le_trans hb1.size hb2.size))⟩
          · have HF : Hid (numF ps[i] 3 = false) := hide (by simpa using hf)
            have HN : Hid (adOK l = false) := hide (HBK.out (by unfold okP; rw [← HO3.out, HF.out]; rfl))
            clear hf
            generalize adFold (ps.take i) = x at *
            generalize bs ps[i] = sp at *
            go_wp2_with (go_at_call 28; refine HNW.out.mono ?_; rintro e w3 ⟨n, rfl, hn, hb3⟩; rw [HF.out] at *; clear hn)
            go_ret2
            exact ⟨ret_pair (adX_no HN.out).symm (adC_no HN.out).symm, (hb1.trans (hb2.mono hb1.size)).trans (hb3.mono (Nat.le_trans hb1.size hb2.size))⟩
        · have hi' : i = 4 := by omega
          subst hi'
          have HT : Hid (ps.take 4 = ps) := hide (List.take_of_length_le (by rw [H4.out]; omega))
          rw [HT.out] at hn0 hn1 HD ⊢
          have HY := hide (HOK.out HD.out)
          have HXX := hide (HX.out HY.out)
          generalize adFold ps = x at *
          go_wp2_with fail
          go_ret2
          exact ⟨ret_pair HXX.out.symm (adC_yes HY.out).symm, hb1.trans (hb2.mono hb1.size)⟩
    · have HN : Hid (adOK l = false) := hide (by unfold adOK; rw [decide_eq_false h4]; rfl)
      have hne : (((splitL 46 l).length : Int) != 4) = true := by rw [bne_iff_ne]; omega
      have HNE := hide (split_ne 46 l)
      clear h4
      generalize bs l = s at *
      generalize splitL 46 l = ps at *
      go_enter Try.func27, Try.ntmps27
      go_wp2_with (go_at_call 24; refine HC.out.mono ?_; rintro e w1 ⟨v, rfl, hown, hb1⟩; obtain ⟨g, cap, rfl, hg, hcell⟩ := hown.at HNE.out; have HCL := hide hcell; clear hcell hown)
      go_ret2
      exact ⟨ret_pair (adX_no HN.out).symm (adC_no HN.out).symm, hb1⟩

def pfOK (l : List UInt8) : Bool := match splitL 47 l with
  | [a, b] => adOK a && numOK b 32 && prefB (adX a) (numV b)
  | _ => false
def pfA (l : List UInt8) : Int := if pfOK l then adX ((splitL 47 l).headD []) else 0
def pfB (l : List UInt8) : Int := if pfOK l then numV ((splitL 47 l).tail.headD []) else 0
def pfC (l : List UInt8) : Int := if pfOK l then 0 else 6
theorem pf_no {l : List UInt8} (h : pfOK l = false) : pfA l = 0 ∧ pfB l = 0 ∧ pfC l = 6 := by unfold pfA pfB pfC; rw [h]; exact ⟨rfl, rfl, rfl⟩
theorem pf_yes {l a b : List UInt8} (hs : splitL 47 l = [a, b]) (h : pfOK l = true) : pfA l = adX a ∧ pfB l = numV b ∧ pfC l = 0 := by unfold pfA pfB pfC; rw [h, hs]; exact ⟨rfl, rfl, rfl⟩
theorem pf_two {l a b : List UInt8} (hs : splitL 47 l = [a, b]) : pfOK l = (adOK a && numOK b 32 && prefB (adX a) (numV b)) := by unfold pfOK; rw [hs]
theorem pf_len {l : List UInt8} (h : ¬ (splitL 47 l).length = 2) : pfOK l = false := by
  unfold pfOK
  split
  · rename_i a b e; rw [e] at h; exact absurd rfl h
  · rfl
theorem pf_short {l : List UInt8} (h : pfOK l = true) : l.length ≤ 18 := by
  have hs := split_len 47 l
  unfold pfOK at h
  split at h
  · rename_i a b e
    rw [e] at hs
    simp only [Bool.and_eq_true] at h
    have h1 := ad_short h.1.1
    have h2 := h.1.2
    rw [← numOK_F2] at h2
    unfold numF at h2
    simp only [Bool.and_eq_true, decide_eq_true_eq] at h2
    have h3 := h2.1.1.1.2
    simp only [List.flatten_cons, List.flatten_nil, List.append_nil, List.length_append, List.length_cons, List.length_nil] at hs
    omega
  · cases h
/-- Behind the first '/': a second one is no digit. -/
theorem pf_cut {a b : List UInt8} (ha : (47 : UInt8) ∉ a) : pfOK (a ++ 47 :: b) = (adOK a && numOK b 32 && prefB (adX a) (numV b)) := by
  have hs := split_yes 47 b a ha
  by_cases hb : (47 : UInt8) ∈ b
  · obtain ⟨c, d, rfl, hc⟩ := List.eq_append_cons_of_mem hb
    have hs2 := split_yes 47 d c hc
    rw [pf_len (by rw [hs, hs2, List.length_cons, List.length_cons]; have := List.length_pos_iff.2 (split_ne 47 d); omega)]
    rw [numOK_nodigit (l := c ++ 47 :: d) (k := c.length) (by simp) (by simp; rfl)]
    simp
  · rw [split_no 47 b hb] at hs
    exact pf_two hs
theorem pf_none {l : List UInt8} (h : (47 : UInt8) ∉ l) : pfOK l = false := pf_len (by rw [split_no 47 l h]; show ¬ 1 = 2; decide)
theorem pf_spec {a b : List UInt8} : (adOK a && numOK b 32 && prefB (adX a) (numV b)) = (adOK a && numF b 2 && prefB (adX a) (numV b)) := by
  rw [← numOK_F2]
  cases h : prefB (adX a) (numV b) with
  | false => simp
  | true => rw [decide_eq_true (prefB_iff.1 h).2.1]; simp
theorem adX_bd (l : List UInt8) : 0 ≤ adX l ∧ adX l ≤ 4294967295 := by
  unfold adX
  split
  · rename_i h
    unfold adOK at h
    simp only [Bool.and_eq_true, decide_eq_true_eq] at h
    have := adFold_bd (splitL 46 l) 4 (by omega) (by rw [List.take_of_length_le (by omega)]; exact h.2)
    rw [List.take_of_length_le (by omega)] at this
    have h2 := this.2
    have : ((256 : Int) ^ 4) = 4294967296 := by decide
    omega
  · omega
theorem pf_split {a b : List UInt8} (ha : (47 : UInt8) ∉ a) (h : pfOK (a ++ 47 :: b) = true) : splitL 47 (a ++ 47 :: b) = [a, b] := by
  have hs := split_yes 47 b a ha
  by_cases hb : (47 : UInt8) ∈ b
  · rw [pf_cut ha] at h
    simp only [Bool.and_eq_true] at h
    obtain ⟨c, d, rfl, hc⟩ := List.eq_append_cons_of_mem hb
    rw [numOK_nodigit (l := c ++ 47 :: d) (k := c.length) (by simp) (by simp; rfl)] at h
    simp at h
  · rw [hs, split_no 47 b hb]
end Go.Proofs.Ytgegnkboibgbgaa
