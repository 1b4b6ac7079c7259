/-
Contracts of functions of this seat.
-/
import Derived.Test.YtgegnkboibgbgaaRows
import Derived.WalkKit
import Derived.ProofKit
import Derived.OpenShut
import Derived.Test.YtgegnkboibgbgaaRr6
import Derived.Test.YtgegnkboibgbgaaRsm
namespace Go.Proofs.Ytgegnkboibgbgaa
open Go.ChangeShapes Go.WideShapes Go.ChangeAt Go.RowKit
set_option linter.unusedVariables false
set_option maxRecDepth 100000
theorem nmF_map (q : List UInt8) : ∀ L : List (List UInt8 × Int), nmF (L.map fun x => (bs x.1, x.2)) (bs q) = protoA L q
  | [] => rfl
  | (s, n) :: r => by
    rw [List.map_cons, nmF, protoA, nmF_map q r]
    by_cases h : s = q
    · rw [if_pos h, if_pos (by rw [h])]
    · rw [if_neg h, if_neg (fun e => h (bs_inj e))]
abbrev actK : List (List UInt8 × Int) := [([112, 97, 115, 115], 1), ([100, 114, 111, 112], 2), ([114, 101, 106, 101, 99, 116], 3)]
abbrev dirK : List (List UInt8 × Int) := [([105, 110], 1), ([111, 117, 116], 2), ([98, 111, 116, 104], 3)]
abbrev staK : List (List UInt8 × Int) := [([110, 101, 119], 1), ([107, 110, 111, 119, 110], 2), ([114, 101, 108, 97, 116, 101, 100], 3), ([115, 116, 114, 97, 121], 4)]
theorem act_f (q : List UInt8) : nmF actL (bs q) = protoA actK q := nmF_map q actK
theorem dir_f (q : List UInt8) : nmF dirL (bs q) = protoA dirK q := nmF_map q dirK
theorem sta_f (q : List UInt8) : nmF staL (bs q) = protoA staK q := nmF_map q staK
theorem pro_f (q : List UInt8) : nmF proL (bs q) = protoQ q := nmF_map q protoPL
theorem act_split : splitL 32 lActs = [[45], [112, 97, 115, 115], [100, 114, 111, 112], [114, 101, 106, 101, 99, 116]] := by decide
theorem dir_split : splitL 32 lDirs = [[45], [105, 110], [111, 117, 116], [98, 111, 116, 104]] := by decide
theorem sta_split : splitL 32 lStates = [[97, 110, 121], [110, 101, 119], [107, 110, 111, 119, 110], [114, 101, 108, 97, 116, 101, 100], [115, 116, 114, 97, 121]] := by decide
theorem act_same0 (q : List UInt8) : (match protoA actK q with | some A => decide (placeL (splitL 32 lActs) q 0 = A) | none => !inB (placeL (splitL 32 lActs) q 0) 1 3) = true := by
  rw [act_split]
  simp only [protoA, placeL]
  by_cases h1 : [112, 97, 115, 115] = q
  · subst h1; decide
  by_cases h2 : [100, 114, 111, 112] = q
  · subst h2; decide
  by_cases h3 : [114, 101, 106, 101, 99, 116] = q
  · subst h3; decide
  rw [if_neg h1, if_neg h2, if_neg h3]
  show (!inB _ 1 3) = true
  rw [if_neg h1, if_neg h2, if_neg h3]
  split <;> decide
theorem act_same (q : List UInt8) : match protoA actK q with | some A => placeL (splitL 32 lActs) q 0 = A | none => inB (placeL (splitL 32 lActs) q 0) 1 3 = false := by
  have h := act_same0 q
  cases hq : protoA actK q with
  | none => rw [hq] at h; simpa using h
  | some A => rw [hq] at h; simpa using h
theorem dir_same0 (q : List UInt8) : (match protoA dirK q with | some A => decide (placeL (splitL 32 lDirs) q 0 = A) | none => !inB (placeL (splitL 32 lDirs) q 0) 1 3) = true := by
  rw [dir_split]
  simp only [protoA, placeL]
  by_cases h1 : [105, 110] = q
  · subst h1; decide
  by_cases h2 : [111, 117, 116] = q
  · subst h2; decide
  by_cases h3 : [98, 111, 116, 104] = q
  · subst h3; decide
  rw [if_neg h1, if_neg h2, if_neg h3]
  show (!inB _ 1 3) = true
  rw [if_neg h1, if_neg h2, if_neg h3]
  split <;> decide
theorem dir_same (q : List UInt8) : match protoA dirK q with | some A => placeL (splitL 32 lDirs) q 0 = A | none => inB (placeL (splitL 32 lDirs) q 0) 1 3 = false := by
  have h := dir_same0 q
  cases hq : protoA dirK q with
  | none => rw [hq] at h; simpa using h
  | some A => rw [hq] at h; simpa using h
theorem sta_same (q : List UInt8) : protoA staK q = if placeL (splitL 32 lStates) q 0 < 1 then none else some (placeL (splitL 32 lStates) q 0) := by
  rw [sta_split]
  by_cases h0 : [97, 110, 121] = q
  · subst h0; decide
  by_cases h1 : [110, 101, 119] = q
  · subst h1; decide
  by_cases h2 : [107, 110, 111, 119, 110] = q
  · subst h2; decide
  by_cases h3 : [114, 101, 108, 97, 116, 101, 100] = q
  · subst h3; decide
  by_cases h4 : [115, 116, 114, 97, 121] = q
  · subst h4; decide
  have e : placeL [[97, 110, 121], [110, 101, 119], [107, 110, 111, 119, 110], [114, 101, 108, 97, 116, 101, 100], [115, 116, 114, 97, 121]] q 0 = -1 := by
    simp only [placeL]
    rw [if_neg h0, if_neg h1, if_neg h2, if_neg h3, if_neg h4]
  have e2 : protoA staK q = none := by
    simp only [protoA]
    rw [if_neg h1, if_neg h2, if_neg h3, if_neg h4]
  rw [e, e2]
  decide
/-! A phrase that is ill stays so. -/
theorem tkI_ill (R : List (List UInt8)) : tkI R true = true := by cases R <;> rfl
theorem psB_ill' (k : List UInt8) (R : List (List UInt8)) : psB k R true = false := by cases R <;> rfl
theorem nmS_ill (L : List (ByteArray × Int)) {s : St} (h : s.2 = true) : (nmS L s).2 = true := by unfold nmS; rw [h, tkI_ill]; rfl
theorem kyS_ill (k : List UInt8) {s : St} (h : s.2 = true) : (kyS k s).2 = true := by unfold kyS; rw [h]; rfl
theorem anS_ill {s : St} (h : s.2 = true) : (anS s).2 = true := by unfold anS apI; rw [h, psB_ill', tkI_ill]; rfl
theorem poS_ill {s : St} (h : s.2 = true) : (poS s).2 = true := by unfold poS tpI; rw [h, psB_ill']; rfl
theorem rdB_ill {s : St} (h : s.2 = true) : rdB s = false := by unfold rdB; rw [h]; rfl
theorem prE_ill (A D Q sa sb sl sh da db dl dh : Int) {s : St} (h : s.2 = true) : prE A D Q sa sb sl sh da db dl dh s = none := by
  unfold prE
  rw [rdB_ill h, rdB_ill (nmS_ill staL h)]
  rfl
theorem prE_same (A D Q sa sb sl sh da db dl dh : Int) (R : List (List UInt8)) : prE A D Q sa sb sl sh da db dl dh (R, false) = ruEnd A D Q sa sb sl sh da db dl dh R := by
  match R with
  | [] => rfl
  | [s] =>
    have e1 : rdB ([s], false) = false := rfl
    have e2 : nmS staL ([s], false) = ([], (protoA staK s).isNone) := by unfold nmS; simp only [tkR, tkI, tkW, sta_f]; rfl
    have e3 : nmV staL ([s], false) = (protoA staK s).getD 0 := by unfold nmV; simp only [tkW, sta_f]
    unfold prE
    rw [e1, e2, e3, sta_same]
    show _ = if placeL (splitL 32 lStates) s 0 < 1 then none else ruFin A D Q sa sb sl sh da db dl dh (placeL (splitL 32 lStates) s 0)
    by_cases h : placeL (splitL 32 lStates) s 0 < 1
    · rw [if_pos h, if_pos h]; rfl
    · rw [if_neg h, if_neg h]; rfl
  | s :: s2 :: r =>
    have e1 : rdB (s :: s2 :: r, false) = false := rfl
    have e2 : rdB (nmS staL (s :: s2 :: r, false)) = false := by unfold rdB nmS; simp [tkR]
    unfold prE
    rw [e1, e2]
    rfl
theorem ruFin_bad {A D Q sa sb sl sh da db dl dh S : Int} (h : ruOK A D Q sa sb sl sh da db dl dh S = false) : ruFin A D Q sa sb sl sh da db dl dh S = none := by unfold ruFin; rw [h]; rfl
theorem ruEnd_bad {A D Q sa sb sl sh da db dl dh : Int} (h : ∀ S, ruOK A D Q sa sb sl sh da db dl dh S = false) (R : List (List UInt8)) : ruEnd A D Q sa sb sl sh da db dl dh R = none := by
  match R with
  | [] => exact ruFin_bad (h 0)
  | [s] =>
    show (if placeL (splitL 32 lStates) s 0 < 1 then none else ruFin A D Q sa sb sl sh da db dl dh (placeL (splitL 32 lStates) s 0)) = none
    split
    · rfl
    · exact ruFin_bad (h _)
  | s :: s2 :: r => rfl
/-! Ports. -/
theorem led_big6 (l : List UInt8) (h : l.all dgt = true) (hl : ledN l = false) (h2 : 5 < l.length) : 100000 ≤ numV l := by
  have hd := List.all_eq_true.1 h
  have := numV_le l h 6 (by omega)
  match l, h2, hl, hd, this with
  | a :: b :: c :: d :: e :: f :: t, _, hl, hd, this =>
    have h1 := dgt_iff.1 (hd a (by simp))
    have h2 := dgt_iff.1 (hd b (by simp))
    have h3 := dgt_iff.1 (hd c (by simp))
    have h5 := dgt_iff.1 (hd d (by simp))
    have h6 := dgt_iff.1 (hd e (by simp))
    have h7 := dgt_iff.1 (hd f (by simp))
    have h4 : a.toNat ≠ 48 := fun e => by
      have : a = 48 := UInt8.toNat_inj.1 e
      rw [this] at hl; simp [ledN] at hl
    simp only [List.take_succ_cons, List.take_zero] at this
    have e : numV [a, b, c, d, e, f] = ((a.toNat : Int) - 48) * 100000 + ((b.toNat : Int) - 48) * 10000 + ((c.toNat : Int) - 48) * 1000 + ((d.toNat : Int) - 48) * 100 + ((e.toNat : Int) - 48) * 10 + ((f.toNat : Int) - 48) := by simp [numV]; omega
    omega
theorem num5 (l : List UInt8) : (numF l 5 && inB (numV l) 0 65535) = numOK l 65535 := by
  unfold numF numOK
  cases e1 : l.all dgt with
  | false => simp
  | true =>
    cases e2 : ledN l with
    | true => simp
    | false =>
      have hb := led_big6 l e1 e2
      have h0 := numV_nn l e1 l.length (Nat.le_refl _)
      rw [List.take_length] at h0
      have hi : inB (numV l) 0 65535 = decide (numV l ≤ 65535) := by unfold inB; simp [h0]
      rw [hi]
      by_cases h : l.length ≤ 5
      · rw [decide_eq_true h]; cases l.isEmpty <;> simp
      · rw [decide_eq_false (p := numV l ≤ 65535) (by have := hb (by omega); omega)]; simp
theorem numOK_dash {l : List UInt8} (h : 45 ∈ l) : numOK l 65535 = false := by
  have : l.all dgt = false := by
    rw [Bool.eq_false_iff]
    intro ha
    have := List.all_eq_true.1 ha 45 h
    exact absurd this (by decide)
  unfold numOK
  rw [this]
  simp
theorem numF_dash {l : List UInt8} (h : 45 ∈ l) : numF l 5 = false := by
  have : l.all dgt = false := by
    rw [Bool.eq_false_iff]
    intro ha
    have := List.all_eq_true.1 ha 45 h
    exact absurd this (by decide)
  unfold numF
  rw [this]
  simp
/-- A word's ends, both ways of reading it. -/
theorem ends_same (y : List UInt8) : if (numOK (cuA y) 65535 && numOK (cuB y) 65535) = true then endsQ y = some (numX (cuA y) 65535, numX (cuB y) 65535) else ∀ lo hi, endsQ y = some (lo, hi) → portB lo hi = false := by
  have key : ∀ a b : List UInt8, if (numOK a 65535 && numOK b 65535) = true then (numF a 5 = true ∧ numF b 5 = true ∧ numX a 65535 = numV a ∧ numX b 65535 = numV b) else (numF a 5 = true → numF b 5 = true → portB (numV a) (numV b) = false) := by
    intro a b
    have ha := num5 a
    have hb := num5 b
    cases e1 : numOK a 65535 with
    | true =>
      cases e2 : numOK b 65535 with
      | true =>
        rw [e1] at ha; rw [e2] at hb
        rw [if_pos (show (true && true) = true from rfl)]
        exact ⟨(Bool.and_eq_true_iff.1 ha).1, (Bool.and_eq_true_iff.1 hb).1, numX_yes e1, numX_yes e2⟩
      | false =>
        rw [e2] at hb
        rw [if_neg (by simp)]
        intro _ h2
        rw [h2, Bool.true_and] at hb
        unfold portB
        rw [hb]
        simp
    | false =>
      rw [e1] at ha
      rw [if_neg (by simp)]
      intro h1 _
      rw [h1, Bool.true_and] at ha
      unfold portB
      rw [ha]
      simp
  by_cases hd : 45 ∈ y
  · obtain ⟨a, b, rfl, hna⟩ := List.eq_append_cons_of_mem hd
    have eA : cuA (a ++ 45 :: b) = a := (upTo_yes 45 a b hna).1
    have eB : cuB (a ++ 45 :: b) = b := by unfold cuB; rw [if_pos hd]; exact (upTo_yes 45 a b hna).2
    rw [eA, eB]
    unfold endsQ
    rw [split_yes 45 b a hna]
    by_cases hb : 45 ∈ b
    · rw [numOK_dash hb, Bool.and_false, if_neg (by simp)]
      intro lo hi h
      rw [if_neg] at h
      · cases h
      · rintro ⟨_, _, h3⟩
        obtain ⟨c, d, rfl, hnc⟩ := List.eq_append_cons_of_mem hb
        rw [split_yes 45 d c hnc] at h3
        have := splitL_pos 45 d
        simp only [List.length_cons] at h3
        omega
    · rw [split_no 45 b hb]
      have hk := key a b
      split
      · rename_i h
        rw [if_pos h] at hk
        obtain ⟨h1, h2, h3, h4⟩ := hk
        rw [if_pos ⟨h1, h2, by simp⟩, h3, h4]
        rfl
      · rename_i h
        rw [if_neg h] at hk
        intro lo hi he
        by_cases hc : numF a 5 = true ∧ numF b 5 = true
        · rw [if_pos ⟨hc.1, hc.2, by simp⟩] at he
          cases he
          exact hk hc.1 hc.2
        · rw [if_neg (fun x => hc ⟨x.1, x.2.1⟩)] at he
          cases he
  · have eB : cuB y = y := by unfold cuB; rw [if_neg hd]
    have eA : cuA y = y := (upTo_no 45 y hd).1
    rw [eA, eB]
    unfold endsQ
    rw [split_no 45 y hd]
    have hk := key y y
    split
    · rename_i h
      rw [if_pos h] at hk
      obtain ⟨h1, h2, h3, h4⟩ := hk
      rw [if_pos ⟨h1, h2, by simp⟩, h3]
      rfl
    · rename_i h
      rw [if_neg h] at hk
      intro lo hi he
      by_cases hc : numF y 5 = true
      · rw [if_pos ⟨hc, hc, by simp⟩] at he
        cases he
        exact hk hc hc
      · rw [if_neg (fun x => hc x.1)] at he
        cases he
theorem ports_gen (K : Int → Int → St → Option (List Int)) (k : Int → Int → List (List UInt8) → Option (List Int)) (hK : ∀ lo hi R, K lo hi (R, false) = k lo hi R) (hI : ∀ lo hi (s : St), s.2 = true → K lo hi s = none) (hp : ∀ lo hi R, portB lo hi = false → k lo hi R = none) (h1 : k 0 65535 [kPort] = none) (a b : Int) (R : List (List UInt8)) :
    K (tpL R false) (tpH R false) (poS (R, false)) = match portsQ a b R with
      | none => none
      | some (_, _, lo, hi, r) => k lo hi r := by
  have no : psB kPort R false = false → K (tpL R false) (tpH R false) (poS (R, false)) = k 0 65535 R := by
    intro h
    unfold poS tpL tpH tpR tpI
    simp only [h]
    exact hK 0 65535 R
  match R with
  | [] => exact no rfl
  | [x] =>
    by_cases hx : x = kPort
    · subst hx
      have e : (poS ([kPort], false)).2 = true := by decide
      rw [hI _ _ _ e]
      exact h1.symm
    · rw [no (by rw [psB_cons]; exact beq_eq_false_iff_ne.2 hx)]
      rfl
  | x :: y :: r =>
    by_cases hx : x = kPort
    · have hb : psB kPort (x :: y :: r) false = true := by rw [psB_cons, hx]; rfl
      have hr : psR kPort (x :: y :: r) false = y :: r := psR_yes hb
      have eW : tpW (x :: y :: r) false = y := by unfold tpW; rw [hr]; rfl
      have eL : tpL (x :: y :: r) false = numX (cuA y) 65535 := by unfold tpL; rw [if_pos hb, eW]
      have eH : tpH (x :: y :: r) false = numX (cuB y) 65535 := by unfold tpH; rw [if_pos hb, eW]
      have eS : poS (x :: y :: r, false) = (r, !(numOK (cuA y) 65535 && numOK (cuB y) 65535)) := by unfold poS tpR tpI; simp only [if_pos hb, hr, eW]; rfl
      rw [eL, eH, eS]
      have hs := ends_same y
      have eP : portsQ a b (x :: y :: r) = match endsQ y with
        | none => none
        | some (lo, hi) => some (a, b, lo, hi, r) := by unfold portsQ; simp only [keyT, if_pos hx]; rfl
      rw [eP]
      cases hn : (numOK (cuA y) 65535 && numOK (cuB y) 65535) with
      | true =>
        rw [hn, if_pos rfl] at hs
        rw [hs]
        exact hK _ _ r
      | false =>
        rw [hn, if_neg (by simp)] at hs
        rw [hI _ _ _ rfl]
        cases he : endsQ y with
        | none => rfl
        | some v =>
          obtain ⟨lo, hi⟩ := v
          exact (hp lo hi r (hs lo hi he)).symm
    · rw [no (by rw [psB_cons]; exact beq_eq_false_iff_ne.2 hx)]
      have eP : portsQ a b (x :: y :: r) = some (a, b, 0, 65535, x :: y :: r) := by unfold portsQ; simp only [keyT, if_neg hx]
      rw [eP]
theorem portsQ_ab {a b a0 b0 lo hi : Int} {R r : List (List UInt8)} (h : portsQ a b R = some (a0, b0, lo, hi, r)) : a0 = a ∧ b0 = b ∧ r.length ≤ R.length := by
  unfold portsQ at h
  match R with
  | [] => simp [keyT] at h; obtain ⟨rfl, rfl, _, _, rfl⟩ := h; exact ⟨rfl, rfl, Nat.le_refl _⟩
  | [x] => simp [keyT] at h; obtain ⟨rfl, rfl, _, _, rfl⟩ := h; exact ⟨rfl, rfl, Nat.le_refl _⟩
  | x :: y :: r' =>
    by_cases hx : x = kPort
    · simp only [keyT, if_pos hx] at h
      cases he : endsQ y with
      | none => rw [he] at h; cases h
      | some v =>
        rw [he] at h
        simp only [Option.some.injEq, Prod.mk.injEq] at h
        obtain ⟨rfl, rfl, _, _, rfl⟩ := h
        exact ⟨rfl, rfl, by simp; omega⟩
    · simp only [keyT, if_neg hx, Option.some.injEq, Prod.mk.injEq] at h
      obtain ⟨rfl, rfl, _, _, rfl⟩ := h
      exact ⟨rfl, rfl, Nat.le_refl _⟩
/-- One side, as the program reads it. -/
def sdK (key : List UInt8) (K : Int → Int → Int → Int → St → Option (List Int)) (s : St) : Option (List Int) := K (apA (kyS key s).1 (kyS key s).2) (apB (kyS key s).1 (kyS key s).2) (tpL (anS (kyS key s)).1 (anS (kyS key s)).2) (tpH (anS (kyS key s)).1 (anS (kyS key s)).2) (poS (anS (kyS key s)))
theorem side_ill (key : List UInt8) (K : Int → Int → Int → Int → St → Option (List Int)) (hI : ∀ a b lo hi (s : St), s.2 = true → K a b lo hi s = none) {s : St} (h : s.2 = true ∨ (kyS key s).2 = true ∨ (anS (kyS key s)).2 = true) : sdK key K s = none := by
  have h2 : (anS (kyS key s)).2 = true := by
    rcases h with h | h | h
    · exact anS_ill (kyS_ill key h)
    · exact anS_ill h
    · exact h
  exact hI _ _ _ _ _ (poS_ill h2)
theorem side_gen (key : List UInt8) (K : Int → Int → Int → Int → St → Option (List Int)) (k : Int → Int → Int → Int → List (List UInt8) → Option (List Int)) (hK : ∀ a b lo hi R, K a b lo hi (R, false) = k a b lo hi R) (hI : ∀ a b lo hi (s : St), s.2 = true → K a b lo hi s = none) (hp : ∀ a b lo hi R, portB lo hi = false → k a b lo hi R = none) (h1 : ∀ a b, k a b 0 65535 [kPort] = none) (R : List (List UInt8)) :
    sdK key K (R, false) = match sideQ key R with
      | none => none
      | some (a, b, lo, hi, r) => k a b lo hi r := by
  match R with
  | [] => rw [side_ill key K hI (.inr (.inl rfl))]; rfl
  | [x] =>
    have e : sideQ key [x] = none := rfl
    rw [e]
    by_cases hx : x = key
    · have hb : psB key [x] false = true := by rw [psB_cons, hx]; simp
      refine side_ill key K hI (.inr (.inr ?_))
      have : kyS key ([x], false) = ([], false) := by unfold kyS; simp only [hb, psR_yes hb]; rfl
      rw [this]
      rfl
    · have hb : psB key [x] false = false := by rw [psB_cons]; exact beq_eq_false_iff_ne.2 hx
      exact side_ill key K hI (.inr (.inl (by unfold kyS; simp only [hb]; rfl)))
  | x :: y :: r =>
    by_cases hx : x = key
    · have hb : psB key (x :: y :: r) false = true := by rw [psB_cons, hx]; simp
      have e1 : kyS key (x :: y :: r, false) = (y :: r, false) := by unfold kyS; simp only [hb, psR_yes hb]; rfl
      have e2 : sideQ key (x :: y :: r) = if y = kAny then portsQ 0 0 r else if pfOK y = true then portsQ (pfA y) (pfB y) r else none := by unfold sideQ; simp only [keyT, if_pos hx]
      unfold sdK
      rw [e1, e2]
      by_cases hy : y = kAny
      · have hc : psB kAny (y :: r) false = true := by rw [psB_cons, hy]; rfl
        have e3 : anS (y :: r, false) = (r, false) := by unfold anS apR apI; simp only [hc, psR_yes hc]; rfl
        have e4 : apA (y :: r) false = 0 := by unfold apA; rw [if_pos hc]
        have e5 : apB (y :: r) false = 0 := by unfold apB; rw [if_pos hc]
        rw [e3, if_pos hy, e4, e5, ports_gen (K 0 0) (k 0 0) (hK 0 0) (hI 0 0) (hp 0 0) (h1 0 0) 0 0 r]
        cases hq : portsQ 0 0 r with
        | none => rfl
        | some v =>
          obtain ⟨a0, b0, lo, hi, r'⟩ := v
          obtain ⟨rfl, rfl, _⟩ := portsQ_ab hq
          rfl
      · have hc : psB kAny (y :: r) false = false := by rw [psB_cons]; exact beq_eq_false_iff_ne.2 hy
        have e3 : anS (y :: r, false) = (r, !pfOK y) := by unfold anS apR apI; simp only [hc]; rfl
        have e4 : apA (y :: r) false = pfA y := by unfold apA; rw [hc]; rfl
        have e5 : apB (y :: r) false = pfB y := by unfold apB; rw [hc]; rfl
        rw [e3, if_neg hy, e4, e5]
        cases ho : pfOK y with
        | true =>
          rw [if_pos rfl]
          show K _ _ (tpL r false) (tpH r false) (poS (r, false)) = _
          rw [ports_gen (K (pfA y) (pfB y)) (k (pfA y) (pfB y)) (hK _ _) (hI _ _) (hp _ _) (h1 _ _) (pfA y) (pfB y) r]
          cases hq : portsQ (pfA y) (pfB y) r with
          | none => rfl
          | some v =>
            obtain ⟨a0, b0, lo, hi, r'⟩ := v
            obtain ⟨rfl, rfl, _⟩ := portsQ_ab hq
            rfl
        | false =>
          rw [if_neg (by simp)]
          exact hI _ _ _ _ _ (poS_ill rfl)
    · have hb : psB key (x :: y :: r) false = false := by rw [psB_cons]; exact beq_eq_false_iff_ne.2 hx
      have e2 : sideQ key (x :: y :: r) = none := by unfold sideQ; simp only [keyT, if_neg hx]
      rw [e2]
      exact side_ill key K hI (.inr (.inl (by unfold kyS; simp only [hb]; rfl)))
theorem sideQ_len {key : List UInt8} {a b lo hi : Int} {R r : List (List UInt8)} (h : sideQ key R = some (a, b, lo, hi, r)) : 2 + r.length ≤ R.length := by
  unfold sideQ at h
  match R with
  | [] => simp [keyT] at h
  | [x] => simp [keyT] at h
  | x :: y :: r' =>
    by_cases hx : x = key
    · simp only [keyT, if_pos hx] at h
      by_cases hy : y = kAny
      · rw [if_pos hy] at h; have := (portsQ_ab h).2.2; simp; omega
      · rw [if_neg hy] at h
        by_cases ho : pfOK y = true
        · rw [if_pos ho] at h; have := (portsQ_ab h).2.2; simp; omega
        · rw [if_neg ho] at h; cases h
    · simp only [keyT, if_neg hx] at h; cases h
/-- Both sides. -/
def sp2 (A D Q sa sb sl sh : Int) (R : List (List UInt8)) : Option (List Int) := match sideQ kTo R with
  | none => none
  | some (da, db, dl, dh, r) => ruEnd A D Q sa sb sl sh da db dl dh r
theorem port_bad1 {A D Q sa sb sl sh da db dl dh : Int} (h : portB sl sh = false) (S : Int) : ruOK A D Q sa sb sl sh da db dl dh S = false := by unfold ruOK; rw [h]; simp
theorem port_bad2 {A D Q sa sb sl sh da db dl dh : Int} (h : portB dl dh = false) (S : Int) : ruOK A D Q sa sb sl sh da db dl dh S = false := by unfold ruOK; rw [h]; simp
theorem sd2_same (A D Q sa sb sl sh : Int) (R : List (List UInt8)) : sdK kTo (prE A D Q sa sb sl sh) (R, false) = sp2 A D Q sa sb sl sh R :=
  side_gen kTo (prE A D Q sa sb sl sh) (ruEnd A D Q sa sb sl sh) (fun _ _ _ _ R => prE_same A D Q sa sb sl sh _ _ _ _ R) (fun _ _ _ _ _ h => prE_ill A D Q sa sb sl sh _ _ _ _ h) (fun _ _ _ _ R h => ruEnd_bad (port_bad2 h) R) (fun a b => by
    have e : placeL (splitL 32 lStates) kPort 0 < 1 := by rw [sta_split]; decide
    show (if placeL (splitL 32 lStates) kPort 0 < 1 then none else ruFin A D Q sa sb sl sh a b 0 65535 (placeL (splitL 32 lStates) kPort 0)) = none
    rw [if_pos e]) R
theorem sd1_same (A D Q : Int) (R : List (List UInt8)) : sdK kFrom (fun sa sb sl sh s => sdK kTo (prE A D Q sa sb sl sh) s) (R, false) = match sideQ kFrom R with
      | none => none
      | some (sa, sb, sl, sh, r) => sp2 A D Q sa sb sl sh r :=
  side_gen kFrom (fun sa sb sl sh s => sdK kTo (prE A D Q sa sb sl sh) s) (sp2 A D Q) (fun sa sb sl sh R => sd2_same A D Q sa sb sl sh R) (fun sa sb sl sh s h => side_ill kTo _ (fun _ _ _ _ _ h => prE_ill A D Q sa sb sl sh _ _ _ _ h) (.inl h)) (fun sa sb sl sh R h => by
    unfold sp2
    cases sideQ kTo R with
    | none => rfl
    | some v => exact ruEnd_bad (port_bad1 h) _) (fun a b => rfl) R
theorem prP_is (ps : List (List UInt8)) : prP ps = sdK kFrom (fun sa sb sl sh s => sdK kTo (prE (nmV actL (ps, false)) (nmV dirL (rs1 ps)) (nmV proL (rs2 ps)) sa sb sl sh) s) (rs3 ps) := rfl
theorem prP_ill {ps : List (List UInt8)} (h : (rs3 ps).2 = true) : prP ps = none := by
  rw [prP_is]
  exact side_ill kFrom _ (fun _ _ _ _ s h => side_ill kTo _ (fun _ _ _ _ _ h => prE_ill _ _ _ _ _ _ _ _ _ _ _ h) (.inl h)) (.inl h)
theorem nmS_cons (L : List (ByteArray × Int)) (x : List UInt8) (r : List (List UInt8)) : nmS L (x :: r, false) = (r, (nmF L (bs x)).isNone) := rfl
theorem ru_none_end {A D P sa sb sl sh : Int} (hA : inB A 1 3 = false ∨ inB D 1 3 = false) (r1 : List (List UInt8)) : sp2 A D P sa sb sl sh r1 = none := by
  unfold sp2
  cases sideQ kTo r1 with
  | none => rfl
  | some v =>
    refine ruEnd_bad (fun S => ?_) _
    unfold ruOK
    rcases hA with h | h <;> rw [h] <;> simp
theorem ruP_sp (a d p : List UInt8) (r : List (List UInt8)) : ruP (a :: d :: p :: r) = if r.length < 4 then none else match protoQ p with
    | none => none
    | some P => match sideQ kFrom r with
      | none => none
      | some (sa, sb, sl, sh, r1) => sp2 (placeL (splitL 32 lActs) a 0) (placeL (splitL 32 lDirs) d 0) P sa sb sl sh r1 := rfl
/-- The program reads a rule's words as the model does. -/
theorem ru_same (ps : List (List UInt8)) : prP ps = ruP ps := by
  match ps with
  | [] => exact prP_ill rfl
  | [a] => exact prP_ill (nmS_ill proL (by show (nmS dirL (nmS actL ([a], false))).2 = true; rw [nmS_cons]; unfold nmS; simp [tkI]))
  | [a, d] => exact prP_ill (by show (nmS proL (nmS dirL (nmS actL ([a, d], false)))).2 = true; rw [nmS_cons]; cases (nmF actL (bs a)).isNone with | true => exact nmS_ill proL (nmS_ill dirL rfl) | false => rw [nmS_cons]; unfold nmS; simp [tkI])
  | a :: d :: p :: r =>
    rw [ruP_sp]
    have hbad : (inB (placeL (splitL 32 lActs) a 0) 1 3 = false ∨ inB (placeL (splitL 32 lDirs) d 0) 1 3 = false) → (if r.length < 4 then none else match protoQ p with
      | none => none
      | some P => match sideQ kFrom r with
        | none => none
        | some (sa, sb, sl, sh, r1) => sp2 (placeL (splitL 32 lActs) a 0) (placeL (splitL 32 lDirs) d 0) P sa sb sl sh r1) = (none : Option (List Int)) := by
      intro h
      split
      · rfl
      · cases protoQ p with
        | none => rfl
        | some P =>
          cases sideQ kFrom r with
          | none => rfl
          | some v => exact ru_none_end h _
    have e1 : rs1 (a :: d :: p :: r) = (d :: p :: r, (protoA actK a).isNone) := by unfold rs1; rw [nmS_cons, act_f]
    have v1 : nmV actL (a :: d :: p :: r, false) = (protoA actK a).getD 0 := by unfold nmV; simp only [tkW, act_f]
    have hA := act_same a
    cases qa : protoA actK a with
    | none =>
      rw [qa] at hA e1
      rw [hbad (.inl hA)]
      exact prP_ill (by unfold rs3 rs2; rw [e1]; exact nmS_ill proL (nmS_ill dirL rfl))
    | some A =>
      rw [qa] at hA e1 v1
      have e2 : rs2 (a :: d :: p :: r) = (p :: r, (protoA dirK d).isNone) := by unfold rs2; rw [e1]; show nmS dirL (d :: p :: r, false) = _; rw [nmS_cons, dir_f]
      have v2 : nmV dirL (rs1 (a :: d :: p :: r)) = (protoA dirK d).getD 0 := by rw [e1]; unfold nmV; simp only [Option.isNone_some, tkW, dir_f]
      have hD := dir_same d
      cases qd : protoA dirK d with
      | none =>
        rw [qd] at hD e2
        rw [hbad (.inr hD)]
        exact prP_ill (by unfold rs3; rw [e2]; exact nmS_ill proL rfl)
      | some D =>
        rw [qd] at hD e2 v2
        have e3 : rs3 (a :: d :: p :: r) = (r, (protoQ p).isNone) := by unfold rs3; rw [e2]; show nmS proL (p :: r, false) = _; rw [nmS_cons, pro_f]
        have v3 : nmV proL (rs2 (a :: d :: p :: r)) = (protoQ p).getD 0 := by rw [e2]; unfold nmV; simp only [Option.isNone_some, tkW, pro_f]
        cases qp : protoQ p with
        | none =>
          rw [qp] at e3
          rw [prP_ill (by rw [e3]; rfl)]
          split <;> rfl
        | some P =>
          rw [qp] at e3 v3
          rw [prP_is, e3, v1, v2, v3]
          show sdK kFrom (fun sa sb sl sh s => sdK kTo (prE A D P sa sb sl sh) s) (r, false) = _
          rw [sd1_same, hA, hD]
          by_cases h4 : r.length < 4
          · rw [if_pos h4]
            cases hs : sideQ kFrom r with
            | none => rfl
            | some v =>
              obtain ⟨sa, sb, sl, sh, r1⟩ := v
              have l1 := sideQ_len hs
              show sp2 A D P sa sb sl sh r1 = none
              unfold sp2
              cases ht : sideQ kTo r1 with
              | none => rfl
              | some u =>
                obtain ⟨da, db, dl, dh, r2⟩ := u
                have l2 := sideQ_len ht
                omega
          · rw [if_neg h4]

theorem readRule_walk (w : World) (a : Option Addr) (ps : List (List UInt8)) (cap : Nat) (hd : Wds ps) (h0 : 0 < ps.length) (hs : ArrS w a ps) (hc : ps.length ≤ cap) :
    Calls Try.prog 22 #[.slice a ps.length cap] w fun e w' => ∃ (y0 y1 y2 y3 y4 y5 y6 y7 y8 y9 y10 y11 : Int) (okq : Bool), e = .returned (.tuple #[.agg #[.int .i64 y0, .int .i64 y1, .int .i64 y2, .int .i64 y3, .int .i64 y4, .int .i64 y5, .int .i64 y6, .int .i64 y7, .int .i64 y8, .int .i64 y9, .int .i64 y10, .int .i64 y11], .bool okq]) ∧ (ruP ps = if okq = true then some [y0, y1, y2, y3, y4, y5, y6, y7, y8, y9, y10, y11] else none) ∧ Below w.heap.size w w' := by
  have h := readRule_walk0 w a ps cap hd hs hc
  rw [ru_same] at h
  exact h
end Go.Proofs.Ytgegnkboibgbgaa
