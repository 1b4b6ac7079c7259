/-
Contracts of functions of this seat.
-/
import Derived.Test.YtgegnkboibgbgaaRows
import Derived.WalkKit
import Derived.ProofKit
import Derived.OpenShut
import Derived.Test.YtgegnkboibgbgaaShm
import Derived.Lib.Join
namespace Go.Proofs.Ytgegnkboibgbgaa
open Go.ChangeShapes Go.WideShapes Go.ChangeAt Go.RowKit
set_option linter.unusedVariables false
set_option maxRecDepth 100000
abbrev wPass : ByteArray := ⟨#[112, 97, 115, 115]⟩
abbrev wDrop : ByteArray := ⟨#[100, 114, 111, 112]⟩
abbrev wReject : ByteArray := ⟨#[114, 101, 106, 101, 99, 116]⟩
abbrev wIn : ByteArray := ⟨#[105, 110]⟩
abbrev wOut : ByteArray := ⟨#[111, 117, 116]⟩
abbrev wBoth : ByteArray := ⟨#[98, 111, 116, 104]⟩
abbrev wAny : ByteArray := ⟨#[97, 110, 121]⟩
abbrev wIcmp : ByteArray := ⟨#[105, 99, 109, 112]⟩
abbrev wTcp : ByteArray := ⟨#[116, 99, 112]⟩
abbrev wUdp : ByteArray := ⟨#[117, 100, 112]⟩
abbrev wNew : ByteArray := ⟨#[110, 101, 119]⟩
abbrev wKnown : ByteArray := ⟨#[107, 110, 111, 119, 110]⟩
abbrev wRelated : ByteArray := ⟨#[114, 101, 108, 97, 116, 101, 100]⟩
abbrev wStray : ByteArray := ⟨#[115, 116, 114, 97, 121]⟩
abbrev wFrom : ByteArray := ⟨#[102, 114, 111, 109]⟩
abbrev wTo : ByteArray := ⟨#[116, 111]⟩
abbrev wPort : ByteArray := ⟨#[112, 111, 114, 116]⟩
abbrev wDash : ByteArray := ⟨#[45]⟩
abbrev sSp : ByteArray := ⟨#[32]⟩
abbrev sFrom : ByteArray := ⟨#[32, 102, 114, 111, 109, 32]⟩
abbrev sTo : ByteArray := ⟨#[32, 116, 111, 32]⟩
abbrev sPort : ByteArray := ⟨#[32, 112, 111, 114, 116, 32]⟩
abbrev sNl1 : ByteArray := ⟨#[10]⟩
def portB (l h : Int) : Bool := inB l 0 65535 && inB h 0 65535 && decide (l ≤ h)
def allP (l h : Int) : Bool := decide (l = 0) && decide (h = 65535)
def protB (P : Int) (q : Bool) : Bool := decide (P = 6) || decide (P = 17) || ((decide (P = 0) || decide (P = 1)) && q)
/-- Whether a rule is valid. -/
def ruOK (A D P sa sb sl sh da db dl dh S : Int) : Bool := inB A 1 3 && inB D 1 3 && inB S 0 4 && prefB sa sb && prefB da db && portB sl sh && portB dl dh && protB P (allP sl sh && allP dl dh)
def actW (A : Int) : ByteArray := if A = 1 then wPass else if A = 2 then wDrop else wReject
def dirW (A : Int) : ByteArray := if A = 1 then wIn else if A = 2 then wOut else wBoth
def protW (P : Int) : ByteArray := if P = 1 then wIcmp else if P = 6 then wTcp else if P = 17 then wUdp else wAny
def staW (S : Int) : ByteArray := if S = 1 then wNew else if S = 2 then wKnown else if S = 3 then wRelated else wStray
def preW (a b : Int) : ByteArray := if 0 < b then showP a b else wAny
def porW (l h : Int) : ByteArray := if l = h then decG l.toNat else decG l.toNat ++ wDash ++ decG h.toNat
/-- One side of a rule, as the model writes it. -/
def sideT (a b l h : Int) : ByteArray := if allP l h = true then preW a b else if l = h then preW a b ++ sPort ++ decG l.toNat else preW a b ++ sPort ++ decG l.toNat ++ wDash ++ decG h.toNat
/-- One side of a rule as words. -/
def sideWs (a b l h : Int) : List ByteArray := if allP l h = true then [preW a b] else [preW a b, wPort, porW l h]
def ruHead (o : ByteArray) (A D P sa sb sl sh da db dl dh : Int) : ByteArray := o ++ actW A ++ sSp ++ dirW D ++ sSp ++ protW P ++ sFrom ++ sideT sa sb sl sh ++ sTo ++ sideT da db dl dh
/-- A rule's line behind what there is. -/
def ruStep (o : ByteArray) (A D P sa sb sl sh da db dl dh S : Int) : ByteArray := (if S = 0 then ruHead o A D P sa sb sl sh da db dl dh else ruHead o A D P sa sb sl sh da db dl dh ++ sSp ++ staW S) ++ sNl1
def ruBase (A D P sa sb sl sh da db dl dh : Int) : List ByteArray := [actW A, dirW D, protW P] ++ [wFrom] ++ sideWs sa sb sl sh ++ [wTo] ++ sideWs da db dl dh
/-- A rule's words. -/
def ruWords (A D P sa sb sl sh da db dl dh S : Int) : List ByteArray := if S = 0 then ruBase A D P sa sb sl sh da db dl dh else ruBase A D P sa sb sl sh da db dl dh ++ [staW S]
/-- A rule's line, without its newline. -/
def ruLine (A D P sa sb sl sh da db dl dh S : Int) : List UInt8 := Lib.join ((ruWords A D P sa sb sl sh da db dl dh S).map (·.data.toList)) [32]
theorem sideWs_ne (a b l h : Int) : sideWs a b l h ≠ [] := by unfold sideWs; split <;> simp
theorem ruWords_ne (A D P sa sb sl sh da db dl dh S : Int) : ruWords A D P sa sb sl sh da db dl dh S ≠ [] := by unfold ruWords ruBase; split <;> simp
theorem sideWs_len (a b l h : Int) : (sideWs a b l h).length ≤ 3 := by unfold sideWs; split <;> simp
theorem ruWords_len (A D P sa sb sl sh da db dl dh S : Int) : (ruWords A D P sa sb sl sh da db dl dh S).length ≤ 12 := by
  have h1 := sideWs_len sa sb sl sh
  have h2 := sideWs_len da db dl dh
  unfold ruWords ruBase
  split <;> simp <;> omega
theorem lj_one (x : List UInt8) : Lib.join [x] [32] = x := by simp [Lib.join, List.intercalate, List.intersperse]
theorem lj_cons (x y : List UInt8) (r : List (List UInt8)) : Lib.join (x :: y :: r) [32] = x ++ [32] ++ Lib.join (y :: r) [32] := by simp [Lib.join, List.intercalate, List.intersperse, List.append_assoc]
theorem lj_app : ∀ (xs ys : List (List UInt8)), xs ≠ [] → ys ≠ [] → Lib.join (xs ++ ys) [32] = Lib.join xs [32] ++ [32] ++ Lib.join ys [32]
  | [], _, h, _ => absurd rfl h
  | [x], [], _, h => absurd rfl h
  | [x], y :: ys, _, _ => by rw [List.singleton_append, lj_cons, lj_one]
  | x :: x' :: xs, ys, _, h => by
    rw [List.cons_append, List.cons_append, lj_cons, lj_cons, ← List.cons_append, lj_app (x' :: xs) ys (by simp) h]
    simp only [List.append_assoc]
theorem side_line (a b l h : Int) : Lib.join ((sideWs a b l h).map (·.data.toList)) [32] = (sideT a b l h).data.toList := by
  unfold sideWs sideT
  by_cases h1 : allP l h = true
  · rw [if_pos h1, if_pos h1]; simp only [List.map_cons, List.map_nil, lj_one]
  · rw [if_neg h1, if_neg h1]
    simp only [List.map_cons, List.map_nil, lj_one, lj_cons]
    unfold porW
    by_cases h2 : l = h
    · rw [if_pos h2, if_pos h2]; simp [ByteArray.data_append, List.append_assoc]
    · rw [if_neg h2, if_neg h2]; simp [ByteArray.data_append, List.append_assoc]
theorem ruBase_line (A D P sa sb sl sh da db dl dh : Int) : Lib.join ((ruBase A D P sa sb sl sh da db dl dh).map (·.data.toList)) [32] = (ruHead ⟨#[]⟩ A D P sa sb sl sh da db dl dh).data.toList := by
  unfold ruBase ruHead
  have n1 : (sideWs sa sb sl sh).map (·.data.toList) ≠ [] := fun e => sideWs_ne _ _ _ _ (List.map_eq_nil_iff.1 e)
  have n2 : (sideWs da db dl dh).map (·.data.toList) ≠ [] := fun e => sideWs_ne _ _ _ _ (List.map_eq_nil_iff.1 e)
  simp only [List.map_append]
  rw [lj_app _ _ (by simp) n2, lj_app _ _ (by simp) (by simp), lj_app _ _ (by simp) n1, lj_app _ _ (by simp) (by simp), side_line, side_line]
  simp only [List.map_cons, List.map_nil, lj_one, lj_cons]
  simp [ByteArray.data_append, List.append_assoc]
theorem ruHead_app (o : ByteArray) (A D P sa sb sl sh da db dl dh : Int) : (ruHead o A D P sa sb sl sh da db dl dh).data.toList = o.data.toList ++ (ruHead ⟨#[]⟩ A D P sa sb sl sh da db dl dh).data.toList := by
  unfold ruHead
  simp [ByteArray.data_append, List.append_assoc]
theorem ruStep_line (o : ByteArray) (A D P sa sb sl sh da db dl dh S : Int) : (ruStep o A D P sa sb sl sh da db dl dh S).data.toList = o.data.toList ++ ruLine A D P sa sb sl sh da db dl dh S ++ [10] := by
  unfold ruStep ruLine ruWords
  by_cases hS : S = 0
  · rw [if_pos hS, if_pos hS, ruBase_line, ByteArray.data_append, Array.toList_append, ruHead_app o]
  · rw [if_neg hS, if_neg hS, List.map_append, lj_app _ _ (fun e => by have := List.map_eq_nil_iff.1 e; unfold ruBase at this; simp at this) (by simp), ruBase_line, ByteArray.data_append, Array.toList_append, ByteArray.data_append, Array.toList_append, ByteArray.data_append, Array.toList_append, ruHead_app o]
    simp only [List.map_cons, List.map_nil, lj_one, List.append_assoc]
theorem preW_size (a b : Int) : (preW a b).size ≤ 19 := by
  unfold preW
  have := showP_size a b
  have : wAny.size = 3 := rfl
  split <;> omega
theorem decG_port {l : Int} (h0 : 0 ≤ l) (h : l ≤ 65535) : (decG l.toNat).size ≤ 5 := decG_size 4 l.toNat (by have e : (10 : Nat) ^ (4 + 1) = 100000 := rfl; rw [e]; omega)
theorem portB_parts {l h : Int} (e : portB l h = true) : 0 ≤ l ∧ l ≤ 65535 ∧ 0 ≤ h ∧ h ≤ 65535 ∧ l ≤ h := by
  unfold portB at e
  simp only [Bool.and_eq_true, decide_eq_true_eq] at e
  obtain ⟨⟨h1, h2⟩, h3⟩ := e
  have := inB_iff.1 h1
  have := inB_iff.1 h2
  omega
theorem sideT_size {a b l h : Int} (e : portB l h = true) : (sideT a b l h).size ≤ 36 := by
  obtain ⟨h1, h2, h3, h4, _⟩ := portB_parts e
  have := preW_size a b
  have := decG_port h1 h2
  have := decG_port h3 h4
  have e1 : sPort.size = 6 := rfl
  have e2 : wDash.size = 1 := rfl
  unfold sideT
  split
  · omega
  · split <;> simp only [ByteArray.size_append] <;> omega
theorem actW_size (A : Int) : (actW A).size ≤ 6 := by
  unfold actW
  split
  · decide
  · split <;> decide
theorem dirW_size (A : Int) : (dirW A).size ≤ 4 := by
  unfold dirW
  split
  · decide
  · split <;> decide
theorem protW_size (A : Int) : (protW A).size ≤ 4 := by
  unfold protW
  split
  · decide
  · split
    · decide
    · split <;> decide
theorem staW_size (A : Int) : (staW A).size ≤ 7 := by
  unfold staW
  split
  · decide
  · split
    · decide
    · split <;> decide
theorem ruOK_parts {A D P sa sb sl sh da db dl dh S : Int} (h : ruOK A D P sa sb sl sh da db dl dh S = true) : (1 ≤ A ∧ A ≤ 3) ∧ (1 ≤ D ∧ D ≤ 3) ∧ (0 ≤ S ∧ S ≤ 4) ∧ prefB sa sb = true ∧ prefB da db = true ∧ portB sl sh = true ∧ portB dl dh = true ∧ protB P (allP sl sh && allP dl dh) = true := by
  unfold ruOK at h
  simp only [Bool.and_eq_true] at h
  obtain ⟨⟨⟨⟨⟨⟨⟨h1, h2⟩, h3⟩, h4⟩, h5⟩, h6⟩, h7⟩, h8⟩ := h
  refine ⟨inB_iff.1 h1, inB_iff.1 h2, inB_iff.1 h3, h4, h5, h6, h7, ?_⟩
  simpa using h8
theorem ruHead_size (o : ByteArray) {A D P sa sb sl sh da db dl dh S : Int} (h : ruOK A D P sa sb sl sh da db dl dh S = true) : (ruHead o A D P sa sb sl sh da db dl dh).size ≤ o.size + 101 := by
  obtain ⟨_, _, _, _, _, h6, h7, _⟩ := ruOK_parts h
  have := actW_size A
  have := dirW_size D
  have := protW_size P
  have := sideT_size (a := sa) (b := sb) h6
  have := sideT_size (a := da) (b := db) h7
  have e1 : sSp.size = 1 := rfl
  have e2 : sFrom.size = 6 := rfl
  have e3 : sTo.size = 4 := rfl
  unfold ruHead
  simp only [ByteArray.size_append]
  omega
theorem ruStep_size (o : ByteArray) {A D P sa sb sl sh da db dl dh S : Int} (h : ruOK A D P sa sb sl sh da db dl dh S = true) : (ruStep o A D P sa sb sl sh da db dl dh S).size ≤ o.size + 110 := by
  have h1 := ruHead_size o h
  have := staW_size S
  have e1 : sSp.size = 1 := rfl
  have e2 : sNl1.size = 1 := rfl
  unfold ruStep
  split <;> simp only [ByteArray.size_append] <;> omega
def ruAt (zs : List Int) (k i : Nat) : Int := zs.getD (k * 12 + i) 0
abbrev ruK {α : Type} (f : Int → Int → Int → Int → Int → Int → Int → Int → Int → Int → Int → Int → α) (zs : List Int) (k : Nat) : α := f (ruAt zs k 0) (ruAt zs k 1) (ruAt zs k 2) (ruAt zs k 3) (ruAt zs k 4) (ruAt zs k 5) (ruAt zs k 6) (ruAt zs k 7) (ruAt zs k 8) (ruAt zs k 9) (ruAt zs k 10) (ruAt zs k 11)
def ruText (zs : List Int) : Nat → ByteArray
  | 0 => ⟨#[]⟩
  | k + 1 => ruK (ruStep (ruText zs k)) zs k
def ruAll (zs : List Int) : Nat → Bool
  | 0 => true
  | k + 1 => ruAll zs k && ruK ruOK zs k
theorem ruAll_mono {zs : List Int} {n : Nat} : ∀ {k : Nat}, k < n → ruK ruOK zs k = false → ruAll zs n = false := by
  induction n with
  | zero => intro k h; omega
  | succ n ih =>
    intro k h hk
    show (ruAll zs n && _) = false
    by_cases e : k = n
    · subst e; rw [hk, Bool.and_false]
    · rw [ih (by omega) hk, Bool.false_and]
/-- ShowRules' code. -/
def ruC (zs : List Int) (n : Nat) : Int := if 64 < n then 8 else if ruAll zs n then 0 else 1
def ruS (zs : List Int) (n : Nat) : ByteArray := if ruC zs n = 0 then ruText zs n else ⟨#[]⟩
end Go.Proofs.Ytgegnkboibgbgaa
