/-
Contracts of functions of this seat.
-/
import Derived.Test.YtjojeplffefnpaaDoorRows
import Derived.WalkKit
import Derived.ProofKit
import Derived.OpenShut
import Derived.Test.YtjojeplffefnpaaDoorOsw
import Derived.Test.YtjojeplffefnpaaDoorRvi
import Derived.ArgAppend
namespace Go.Proofs.YtjojeplffefnpaaDoor
open Go.ChangeShapes Go.WideShapes Go.ChangeAt Go.RowKit
set_option linter.unusedVariables false
set_option maxRecDepth 100000
/-- A text cut at every byte of one value. -/
def splitL (c : UInt8) : List UInt8 → List (List UInt8)
  | [] => [[]]
  | x :: xs => if x = c then [] :: splitL c xs else (x :: (splitL c xs).headD []) :: (splitL c xs).tail
theorem split_no (c : UInt8) : ∀ a : List UInt8, c ∉ a → splitL c a = [a]
  | [], _ => rfl
  | x :: xs, h => by
    have h1 : ¬ x = c := fun e => h (by rw [e]; simp)
    have ih := split_no c xs (fun e => h (by simp [e]))
    rw [splitL, if_neg h1, ih]; rfl
theorem split_yes (c : UInt8) (b : List UInt8) : ∀ a : List UInt8, c ∉ a → splitL c (a ++ c :: b) = a :: splitL c b
  | [], _ => by rw [List.nil_append, splitL, if_pos rfl]
  | x :: xs, h => by
    have h1 : ¬ x = c := fun e => h (by rw [e]; simp)
    have ih := split_yes c b xs (fun e => h (by simp [e]))
    rw [List.cons_append, splitL, if_neg h1, ih]; rfl
theorem cut_at (l : List UInt8) (f i : Nat) (hf : f ≤ i) (hi : i < l.length) : l.drop f = (l.drop f).take (i - f) ++ l[i] :: l.drop (i + 1) := by
  rw [← List.drop_eq_getElem_cons hi]
  conv => lhs; rw [← List.take_append_drop (i - f) (l.drop f)]
  rw [List.drop_drop, show f + (i - f) = i by omega]
theorem notin_more {l : List UInt8} {c : UInt8} {f i : Nat} (hf : f ≤ i) (hi : i < l.length) (h : c ∉ (l.drop f).take (i - f)) (hx : ¬ l[i] = c) : c ∉ (l.drop f).take (i + 1 - f) := by
  rw [show i + 1 - f = (i - f) + 1 by omega, List.take_succ_eq_append_getElem (by rw [List.length_drop]; omega)]
  intro e
  rcases List.mem_append.1 e with e | e
  · exact h e
  · simp only [List.mem_singleton, List.getElem_drop] at e
    have : l[f + (i - f)]'(by omega) = l[i] := by congr 1; omega
    rw [this] at e; exact hx e.symm

def sval (ps : List (List UInt8)) : List Value := ps.map (fun l => Value.string (bs l))
theorem sval_len (ps : List (List UInt8)) : (sval ps).length = ps.length := by unfold sval; rw [List.length_map]
/-- A slice of texts in memory of this call's own, from block B on. -/
def OwnS (w : World) (B : Nat) (v : Value) (ps : List (List UInt8)) : Prop := w.ownsRow B 9 1 v ps.length (sval ps)
theorem oneCellsS (ps : List (List UInt8)) : ∀ u ∈ sval ps, u.oneCell' = true := by
  intro u hu
  unfold sval at hu
  obtain ⟨z, _, rfl⟩ := List.mem_map.1 hu
  rfl
theorem OwnS.app {w : World} {B : Nat} {v : Value} {ps qs : List (List UInt8)} {n : Nat} (h : w.ownsRow B 9 1 v n (sval ps ++ sval qs)) (hn : n = ps.length + qs.length) : OwnS w B v (ps ++ qs) := by
  have e : sval (ps ++ qs) = sval ps ++ sval qs := by unfold sval; rw [List.map_append]
  unfold OwnS
  rw [e, List.length_append, ← hn]; exact h
theorem cell_oneS (w : World) (s : ByteArray) (p : List UInt8) (t : Nat) (hs : s = bs p) : ∀ j u, (sval [p])[j]? = some u → (w.alloc (.cells #[.string s] t)).cell? ((⟨w.heap.size, 0, none⟩ : Addr).add j) = some u := by
  intro j u hu
  match j with
  | 0 =>
    simp [sval] at hu
    subst hu
    rw [Addr.add_lit, ← hs]
    exact cell_of_row _ w.heap.size 0 _ t (0, 0) (heap_alloc_new w _)
  | k + 1 => simp [sval] at hu
set_option maxHeartbeats 1000000 in
theorem l02Cut_walk (l : List UInt8) (c : UInt8) (w : World) (hl : l.length ≤ 1048576) :
    Calls Tryd.prog 45 #[.string (bs l), .int .u8 (c.toNat : Int)] w fun e w' => ∃ v : Value, e = .returned v ∧ OwnS w' w.heap.size v (splitL c l) ∧ Below w.heap.size w w' := by
  obtain ⟨i, hi, hz0, hz1, hz2⟩ := info_parts Tryd.infoS
  have HI := hide hi
  have HZ0 := hide hz0
  have HZ1 := hide hz1
  have HZ2 := hide hz2
  clear hi hz0 hz1 hz2
  have hsz := bs_size l
  have HG : Hid (∀ i (h : i < l.length) (h2 : i < (bs l).size), (bs l)[i]'h2 = l[i]'h) := hide (fun i h h2 => bs_get h)
  have HX : Hid (∀ a b, (bs l).extract a b = bs ((l.drop a).take (b - a))) := hide (bs_extract l)
  obtain ⟨cc, hcc, HCC⟩ : ∃ x : Int, (c.toNat : Int) = x ∧ Hid (x = (c.toNat : Int)) := ⟨_, rfl, hide rfl⟩
  have hccb : 0 ≤ cc ∧ cc ≤ 255 := by rw [← hcc]; have := c.toNat_lt; omega
  rw [hcc]
  clear hcc
  generalize bs l = s at *
  go_enter Tryd.func45, Tryd.ntmps45
  go_wp2_with fail
  have hst : OwnS (w.alloc (.cells #[] 9)) w.heap.size (.slice (some ⟨w.heap.size, 0, none⟩) 0 0) [] :=
    World.ownsRow_lit (base := w.heap.size) (e := 9) (size := 1) w #[] 0 (Nat.le_refl _) (by decide) rfl
  have HST := hide hst
  have hb0 := (Below.refl w.heap.size w).alloc (Nat.le_refl _) (.cells #[] 9)
  clear hst
  generalize w.alloc (.cells #[] 9) = W at *
  go_loopw [5, 6, 7] (fun o f t w2 => ∃ (k g : Nat) (ps : List (List UInt8)), k ≤ l.length ∧ g ≤ k ∧ t = .int .i64 k ∧ f = .int .i64 g ∧ ps.length ≤ k ∧ Hid (OwnS w2 w.heap.size o ps) ∧ Below w.heap.size w w2 ∧ Hid (splitL c l = ps ++ splitL c (l.drop g)) ∧ Hid (c ∉ (l.drop g).take (k - g))) (fun _ _ t _ => l.length - (intOf t).toNat)
  case atStart => exact ⟨0, 0, [], by omega, by omega, rfl, rfl, by simp, HST, hb0, hide rfl, hide (by simp)⟩
  case round =>
    obtain ⟨k, g, ps, hk, hg, rfl, rfl, hps, HO, hb, HS, HN⟩ := hrel
    clear hb0
    by_cases hlt : k < l.length
    · have hs2 : k < s.size := by omega
      obtain ⟨x, hx, HC⟩ : ∃ x : Int, ((s[k]'hs2).toNat : Int) = x ∧ Hid (x = (l[k].toNat : Int)) := ⟨_, rfl, hide (by rw [HG.out k hlt hs2])⟩
      have hxb : 0 ≤ x ∧ x ≤ 255 := by rw [HC.out]; have := l[k].toNat_lt; omega
      by_cases hxc : x = cc
      · have HL : Hid (l[k] = c) := hide (UInt8.toNat_inj.1 (by have := HC.out; have := HCC.out; omega))
        have HE := hide (HX.out g k)
        subst hxc
        go_wp2_with (first | (at_builtin; refine wpList_append_own _ rfl _ _ 74 rfl w.heap.size 9 i _ 1 16 Tryd.underlying74 HI.out HZ0.out HZ1.out HZ2.out rfl (by decide) u5 ps.length (sval ps) rfl (HO.out.alloc _) ⟨wr.heap.size, 0, none⟩ 1 1 (sval [(l.drop g).take (k - g)]) rfl rfl (cell_oneS _ _ _ _ HE.out) (oneCellsS _) (by unfold maxLen; omega) (by omega) (by have := hb.size; rw [World.size_alloc]; omega) ?_))
        intro v' w3 hown' hgrow hnil
        have hlo := HO.out.lt
        have HO3 := hide (OwnS.app hown' rfl)
        have hb3 : Below w.heap.size w w3 := (hb.alloc hb.size _).grown hgrow (by have := hb.size; rw [World.size_alloc]; omega) (fun k hk => (hlo k hk).1)
        have HS3 : Hid (splitL c l = (ps ++ [(l.drop g).take (k - g)]) ++ splitL c (l.drop (k + 1))) := hide (by
          rw [HS.out, List.append_assoc]
          congr 1
          conv => lhs; rw [cut_at l g k hg hlt, HL.out]
          exact split_yes c _ _ HN.out)
        clear hown' hnil hgrow hb hlo
        go_wp2_with fail
        exact ⟨⟨k + 1, k + 1, _, by omega, by omega, by go_num, by go_num, by rw [List.length_append]; show _ + 1 ≤ _; omega, HO3, hb3, HS3, hide (by simp)⟩, by simp [intOf]; omega⟩
      · have hxn : (x == cc) = false := beq_eq_false_iff_ne.2 hxc
        have HN2 : Hid (c ∉ (l.drop g).take (k + 1 - g)) := hide (notin_more hg hlt HN.out (fun e => hxc (by rw [HC.out, HCC.out, e])))
        clear hxc
        go_wp2_with fail
        exact ⟨⟨k + 1, g, ps, by omega, by omega, by go_num, rfl, by omega, HO, hb, HS, HN2⟩, by simp [intOf]; omega⟩
    · have hk' : k = l.length := by omega
      subst hk'
      have HE := hide (HX.out g l.length)
      have HTK : Hid ((l.drop g).take (l.length - g) = l.drop g) := hide (List.take_of_length_le (by rw [List.length_drop]; omega))
      have HS3 : Hid (splitL c l = ps ++ [l.drop g]) := hide (by
        rw [HS.out]; congr 1; apply split_no
        have := HN.out
        rw [List.take_of_length_le (by rw [List.length_drop]; omega)] at this
        exact this)
      go_wp2_with (first | (at_builtin; refine wpList_append_own _ rfl _ _ 74 rfl w.heap.size 9 i _ 1 16 Tryd.underlying74 HI.out HZ0.out HZ1.out HZ2.out rfl (by decide) u5 ps.length (sval ps) rfl (HO.out.alloc _) ⟨wr.heap.size, 0, none⟩ 1 1 (sval [l.drop g]) rfl rfl (cell_oneS _ _ _ _ (by rw [← HTK.out]; exact HE.out)) (oneCellsS _) (by unfold maxLen; omega) (by omega) (by have := hb.size; rw [World.size_alloc]; omega) ?_))
      intro v' w3 hown' hgrow hnil
      have hlo := HO.out.lt
      have HO3 := hide (OwnS.app hown' rfl)
      have hb3 : Below w.heap.size w w3 := (hb.alloc hb.size _).grown hgrow (by have := hb.size; rw [World.size_alloc]; omega) (fun k hk => (hlo k hk).1)
      clear hown' hnil hgrow hb hlo
      go_wp2_with fail
      go_ret
      exact ⟨v', rfl, by rw [HS3.out]; exact HO3.out, hb3⟩

theorem ownS_W {w : World} {B : Nat} {v : Value} {ps : List (List UInt8)} (h : OwnS w B v ps) : OwnW w B v (ps.map bs) := by
  unfold OwnW
  rw [List.length_map, List.map_map]
  exact h
set_option maxHeartbeats 1000000 in
theorem l09Word_walk (l : List UInt8) (k : Nat) (q : List UInt8) (hq : (splitL 32 l)[k]? = some q) (hl : l.length ≤ 1000) (w : World) :
    Calls Tryd.prog 18 #[.string (bs l), .int .i64 (k : Int)] w fun e w' => e = .returned (.string (bs q)) ∧ Below w.heap.size w w' := by
  have C := hide (l02Cut_walk l 32 w (by omega))
  have HK : Hid (k < (splitL 32 l).length) := hide (List.getElem?_eq_some_iff.1 hq).1
  have HQ : Hid (((splitL 32 l).map bs)[k]? = some (bs q)) := hide (by rw [List.getElem?_map, hq]; rfl)
  have HNE : Hid ((splitL 32 l).map bs ≠ []) := hide (fun e => by have h := HQ.out; rw [e] at h; cases h)
  clear hq
  go_enter Tryd.func18, Tryd.ntmps18
  go_wp2_with fail
  refine C.out.mono ?_
  rintro e w1 ⟨u, rfl, hou, hb1⟩
  obtain ⟨g, cap, rfl, hgB, hgl, hgc, hgcell⟩ := (ownS_W hou).form HNE.out
  have c := hgcell k _ HQ.out
  rw [Nat.zero_add] at c
  obtain ⟨n, hn, HN⟩ : ∃ n, ((splitL 32 l).map bs).length = n ∧ Hid (((splitL 32 l).map bs).length = n) := ⟨_, rfl, hide rfl⟩
  have hkn : k < n := by rw [← hn, List.length_map]; exact HK.out
  have hki : (k : Int) < (n : Int) := by omega
  rw [hn]
  clear hn hgc hgl hgB hgcell hou
  go_wp2_with fail
  go_ret
  exact ⟨rfl, hb1⟩
abbrev txtAct : ByteArray := ⟨#[45, 32, 112, 97, 115, 115, 32, 100, 114, 111, 112, 32, 114, 101, 106, 101, 99, 116]⟩
theorem specWordAct (x : Int) (h : 1 ≤ x ∧ x ≤ 3) (w : World) : Calls Tryd.prog 18 #[.string txtAct, .int .i64 x] w fun e w' => e = .returned (.string (actW x)) ∧ Below w.heap.size w w' := by
  have : x = 1 ∨ x = 2 ∨ x = 3 := by omega
  rcases this with rfl | rfl | rfl
  · exact l09Word_walk [45, 32, 112, 97, 115, 115, 32, 100, 114, 111, 112, 32, 114, 101, 106, 101, 99, 116] 1 [112, 97, 115, 115] (by decide) (by decide) w
  · exact l09Word_walk [45, 32, 112, 97, 115, 115, 32, 100, 114, 111, 112, 32, 114, 101, 106, 101, 99, 116] 2 [100, 114, 111, 112] (by decide) (by decide) w
  · exact l09Word_walk [45, 32, 112, 97, 115, 115, 32, 100, 114, 111, 112, 32, 114, 101, 106, 101, 99, 116] 3 [114, 101, 106, 101, 99, 116] (by decide) (by decide) w
abbrev txtDir : ByteArray := ⟨#[45, 32, 105, 110, 32, 111, 117, 116, 32, 98, 111, 116, 104]⟩
theorem specWordDir (x : Int) (h : 1 ≤ x ∧ x ≤ 3) (w : World) : Calls Tryd.prog 18 #[.string txtDir, .int .i64 x] w fun e w' => e = .returned (.string (dirW x)) ∧ Below w.heap.size w w' := by
  have : x = 1 ∨ x = 2 ∨ x = 3 := by omega
  rcases this with rfl | rfl | rfl
  · exact l09Word_walk [45, 32, 105, 110, 32, 111, 117, 116, 32, 98, 111, 116, 104] 1 [105, 110] (by decide) (by decide) w
  · exact l09Word_walk [45, 32, 105, 110, 32, 111, 117, 116, 32, 98, 111, 116, 104] 2 [111, 117, 116] (by decide) (by decide) w
  · exact l09Word_walk [45, 32, 105, 110, 32, 111, 117, 116, 32, 98, 111, 116, 104] 3 [98, 111, 116, 104] (by decide) (by decide) w
abbrev txtSta : ByteArray := ⟨#[97, 110, 121, 32, 110, 101, 119, 32, 107, 110, 111, 119, 110, 32, 114, 101, 108, 97, 116, 101, 100, 32, 115, 116, 114, 97, 121]⟩
theorem specWordSta (x : Int) (h : 1 ≤ x ∧ x ≤ 4) (w : World) : Calls Tryd.prog 18 #[.string txtSta, .int .i64 x] w fun e w' => e = .returned (.string (staW x)) ∧ Below w.heap.size w w' := by
  have : x = 1 ∨ x = 2 ∨ x = 3 ∨ x = 4 := by omega
  rcases this with rfl | rfl | rfl | rfl
  · exact l09Word_walk [97, 110, 121, 32, 110, 101, 119, 32, 107, 110, 111, 119, 110, 32, 114, 101, 108, 97, 116, 101, 100, 32, 115, 116, 114, 97, 121] 1 [110, 101, 119] (by decide) (by decide) w
  · exact l09Word_walk [97, 110, 121, 32, 110, 101, 119, 32, 107, 110, 111, 119, 110, 32, 114, 101, 108, 97, 116, 101, 100, 32, 115, 116, 114, 97, 121] 2 [107, 110, 111, 119, 110] (by decide) (by decide) w
  · exact l09Word_walk [97, 110, 121, 32, 110, 101, 119, 32, 107, 110, 111, 119, 110, 32, 114, 101, 108, 97, 116, 101, 100, 32, 115, 116, 114, 97, 121] 3 [114, 101, 108, 97, 116, 101, 100] (by decide) (by decide) w
  · exact l09Word_walk [97, 110, 121, 32, 110, 101, 119, 32, 107, 110, 111, 119, 110, 32, 114, 101, 108, 97, 116, 101, 100, 32, 115, 116, 114, 97, 121] 4 [115, 116, 114, 97, 121] (by decide) (by decide) w
theorem specProto (P : Int) (w : World) : Calls Tryd.prog 19 #[.int .i64 P] w fun e w' => e = .returned (.string (protW P)) ∧ w' = w := by
  by_cases h1 : P = 1
  · subst h1
    go_enter Tryd.func19, Tryd.ntmps19
    go_wp2
    go_ret
    exact ⟨rfl, rfl⟩
  by_cases h6 : P = 6
  · subst h6
    go_enter Tryd.func19, Tryd.ntmps19
    go_wp2
    go_ret
    exact ⟨rfl, rfl⟩
  by_cases h17 : P = 17
  · subst h17
    go_enter Tryd.func19, Tryd.ntmps19
    go_wp2
    go_ret
    exact ⟨rfl, rfl⟩
  have E : Hid (protW P = wAny) := hide (by unfold protW; rw [if_neg h1, if_neg h6, if_neg h17])
  have b1 : (P == 1) = false := beq_eq_false_iff_ne.2 h1
  have b6 : (P == 6) = false := beq_eq_false_iff_ne.2 h6
  have b17 : (P == 17) = false := beq_eq_false_iff_ne.2 h17
  clear h1 h6 h17
  rw [E.out]
  go_enter Tryd.func19, Tryd.ntmps19
  go_wp2
  go_ret
  exact ⟨rfl, rfl⟩
set_option maxHeartbeats 4000000 in
theorem specSide_0a (a b l h : Int) (w : World) (X L H : ByteArray) (hX : X.size ≤ 100) (hL : L.size ≤ 100) (hH : H.size ≤ 100) (hb : ¬ 0 < b)
    (CA0 : ∀ W, Calls Tryd.prog 44 #[.int .i64 l, .int .i64 h] W fun e w' => e = .returned (.bool true) ∧ w' = W)
    : Calls Tryd.prog 20 #[.agg #[.int .i64 a, .int .i64 b], .int .i64 l, .int .i64 h] w fun e w' => e = .returned (.string (wAny)) ∧ Below w.heap.size w w' := by
  have HB0 := hide (BoxV.start w #[.int .i64 a, .int .i64 b] 42)
  have k0 := HB0.out.cell 0 _ rfl
  have k1 := HB0.out.cell 1 _ rfl
  have s1 : sPort.size = 6 := rfl
  have s2 : wDash.size = 1 := rfl
  have s3 : wAny.size = 3 := rfl
  have CA := hide CA0
  clear CA0
  go_enter Tryd.func20, Tryd.ntmps20
  go_wp2_with fail
  refine (CA.out _).mono ?_
  rintro e uq ⟨rfl, huq⟩
  rw [huq]
  clear huq
  go_wp2_with fail
  go_ret
  exact ⟨rfl, HB0.out.1⟩
set_option maxHeartbeats 4000000 in
theorem specSide_0e (a b l h : Int) (w : World) (X L H : ByteArray) (hX : X.size ≤ 100) (hL : L.size ≤ 100) (hH : H.size ≤ 100) (hb : ¬ 0 < b) (hlh : (l != h) = false)
    (CA0 : ∀ W, Calls Tryd.prog 44 #[.int .i64 l, .int .i64 h] W fun e w' => e = .returned (.bool false) ∧ w' = W)
    (CL0 : ∀ W, Calls Tryd.prog 47 #[.int .i64 l] W fun e w' => e = .returned (.string L) ∧ Below W.heap.size W w')
    : Calls Tryd.prog 20 #[.agg #[.int .i64 a, .int .i64 b], .int .i64 l, .int .i64 h] w fun e w' => e = .returned (.string (wAny ++ sPort ++ L)) ∧ Below w.heap.size w w' := by
  have HB0 := hide (BoxV.start w #[.int .i64 a, .int .i64 b] 42)
  have k0 := HB0.out.cell 0 _ rfl
  have k1 := HB0.out.cell 1 _ rfl
  have s1 : sPort.size = 6 := rfl
  have s2 : wDash.size = 1 := rfl
  have s3 : wAny.size = 3 := rfl
  have CA := hide CA0
  clear CA0
  have CL := hide CL0
  clear CL0
  go_enter Tryd.func20, Tryd.ntmps20
  go_wp2_with fail
  refine (CA.out _).mono ?_
  rintro e uq ⟨rfl, huq⟩
  rw [huq]
  clear huq
  go_wp2_with fail
  refine (CL.out _).mono ?_
  rintro e u1 ⟨rfl, hbu⟩
  have HB1 := hide (HB0.out.next hbu)
  clear hbu k0 k1
  go_wp2_with fail
  go_ret
  exact ⟨rfl, HB1.out.1⟩
set_option maxHeartbeats 4000000 in
theorem specSide_0d (a b l h : Int) (w : World) (X L H : ByteArray) (hX : X.size ≤ 100) (hL : L.size ≤ 100) (hH : H.size ≤ 100) (hb : ¬ 0 < b) (hlh : (l != h) = true)
    (CA0 : ∀ W, Calls Tryd.prog 44 #[.int .i64 l, .int .i64 h] W fun e w' => e = .returned (.bool false) ∧ w' = W)
    (CL0 : ∀ W, Calls Tryd.prog 47 #[.int .i64 l] W fun e w' => e = .returned (.string L) ∧ Below W.heap.size W w')
    (CH0 : ∀ W, Calls Tryd.prog 47 #[.int .i64 h] W fun e w' => e = .returned (.string H) ∧ Below W.heap.size W w')
    : Calls Tryd.prog 20 #[.agg #[.int .i64 a, .int .i64 b], .int .i64 l, .int .i64 h] w fun e w' => e = .returned (.string (wAny ++ sPort ++ L ++ wDash ++ H)) ∧ Below w.heap.size w w' := by
  have HB0 := hide (BoxV.start w #[.int .i64 a, .int .i64 b] 42)
  have k0 := HB0.out.cell 0 _ rfl
  have k1 := HB0.out.cell 1 _ rfl
  have s1 : sPort.size = 6 := rfl
  have s2 : wDash.size = 1 := rfl
  have s3 : wAny.size = 3 := rfl
  have CA := hide CA0
  clear CA0
  have CL := hide CL0
  clear CL0
  have CH := hide CH0
  clear CH0
  go_enter Tryd.func20, Tryd.ntmps20
  go_wp2_with fail
  refine (CA.out _).mono ?_
  rintro e uq ⟨rfl, huq⟩
  rw [huq]
  clear huq
  go_wp2_with fail
  refine (CL.out _).mono ?_
  rintro e u1 ⟨rfl, hbu⟩
  have HB1 := hide (HB0.out.next hbu)
  clear hbu k0 k1
  go_wp2_with fail
  refine (CH.out _).mono ?_
  rintro e u2 ⟨rfl, hbu⟩
  have HB2 := hide (HB1.out.next hbu)
  clear hbu 
  go_wp2_with fail
  go_ret
  exact ⟨rfl, HB2.out.1⟩
set_option maxHeartbeats 4000000 in
theorem specSide_1a (a b l h : Int) (w : World) (X L H : ByteArray) (hX : X.size ≤ 100) (hL : L.size ≤ 100) (hH : H.size ≤ 100) (hb : 0 < b)
    (CP0 : ∀ W, Calls Tryd.prog 46 #[.agg #[.int .i64 a, .int .i64 b]] W fun e w' => e = .returned (.tuple #[.string X, .int .i64 0]) ∧ Below W.heap.size W w')
    (CA0 : ∀ W, Calls Tryd.prog 44 #[.int .i64 l, .int .i64 h] W fun e w' => e = .returned (.bool true) ∧ w' = W)
    : Calls Tryd.prog 20 #[.agg #[.int .i64 a, .int .i64 b], .int .i64 l, .int .i64 h] w fun e w' => e = .returned (.string (X)) ∧ Below w.heap.size w w' := by
  have HB0 := hide (BoxV.start w #[.int .i64 a, .int .i64 b] 42)
  have k0 := HB0.out.cell 0 _ rfl
  have k1 := HB0.out.cell 1 _ rfl
  have s1 : sPort.size = 6 := rfl
  have s2 : wDash.size = 1 := rfl
  have s3 : wAny.size = 3 := rfl
  have CP := hide CP0
  clear CP0
  have CA := hide CA0
  clear CA0
  go_enter Tryd.func20, Tryd.ntmps20
  go_wp2_with fail
  refine (CP.out _).mono ?_
  rintro e u1 ⟨rfl, hbu⟩
  have HB1 := hide (HB0.out.next hbu)
  clear hbu k0 k1
  go_wp2_with fail
  refine (CA.out _).mono ?_
  rintro e uq ⟨rfl, huq⟩
  rw [huq]
  clear huq
  go_wp2_with fail
  go_ret
  exact ⟨rfl, HB1.out.1⟩
set_option maxHeartbeats 4000000 in
theorem specSide_1e (a b l h : Int) (w : World) (X L H : ByteArray) (hX : X.size ≤ 100) (hL : L.size ≤ 100) (hH : H.size ≤ 100) (hb : 0 < b) (hlh : (l != h) = false)
    (CP0 : ∀ W, Calls Tryd.prog 46 #[.agg #[.int .i64 a, .int .i64 b]] W fun e w' => e = .returned (.tuple #[.string X, .int .i64 0]) ∧ Below W.heap.size W w')
    (CA0 : ∀ W, Calls Tryd.prog 44 #[.int .i64 l, .int .i64 h] W fun e w' => e = .returned (.bool false) ∧ w' = W)
    (CL0 : ∀ W, Calls Tryd.prog 47 #[.int .i64 l] W fun e w' => e = .returned (.string L) ∧ Below W.heap.size W w')
    : Calls Tryd.prog 20 #[.agg #[.int .i64 a, .int .i64 b], .int .i64 l, .int .i64 h] w fun e w' => e = .returned (.string (X ++ sPort ++ L)) ∧ Below w.heap.size w w' := by
  have HB0 := hide (BoxV.start w #[.int .i64 a, .int .i64 b] 42)
  have k0 := HB0.out.cell 0 _ rfl
  have k1 := HB0.out.cell 1 _ rfl
  have s1 : sPort.size = 6 := rfl
  have s2 : wDash.size = 1 := rfl
  have s3 : wAny.size = 3 := rfl
  have CP := hide CP0
  clear CP0
  have CA := hide CA0
  clear CA0
  have CL := hide CL0
  clear CL0
  go_enter Tryd.func20, Tryd.ntmps20
  go_wp2_with fail
  refine (CP.out _).mono ?_
  rintro e u1 ⟨rfl, hbu⟩
  have HB1 := hide (HB0.out.next hbu)
  clear hbu k0 k1
  go_wp2_with fail
  refine (CA.out _).mono ?_
  rintro e uq ⟨rfl, huq⟩
  rw [huq]
  clear huq
  go_wp2_with fail
  refine (CL.out _).mono ?_
  rintro e u2 ⟨rfl, hbu⟩
  have HB2 := hide (HB1.out.next hbu)
  clear hbu 
  go_wp2_with fail
  go_ret
  exact ⟨rfl, HB2.out.1⟩
set_option maxHeartbeats 4000000 in
theorem specSide_1d (a b l h : Int) (w : World) (X L H : ByteArray) (hX : X.size ≤ 100) (hL : L.size ≤ 100) (hH : H.size ≤ 100) (hb : 0 < b) (hlh : (l != h) = true)
    (CP0 : ∀ W, Calls Tryd.prog 46 #[.agg #[.int .i64 a, .int .i64 b]] W fun e w' => e = .returned (.tuple #[.string X, .int .i64 0]) ∧ Below W.heap.size W w')
    (CA0 : ∀ W, Calls Tryd.prog 44 #[.int .i64 l, .int .i64 h] W fun e w' => e = .returned (.bool false) ∧ w' = W)
    (CL0 : ∀ W, Calls Tryd.prog 47 #[.int .i64 l] W fun e w' => e = .returned (.string L) ∧ Below W.heap.size W w')
    (CH0 : ∀ W, Calls Tryd.prog 47 #[.int .i64 h] W fun e w' => e = .returned (.string H) ∧ Below W.heap.size W w')
    : Calls Tryd.prog 20 #[.agg #[.int .i64 a, .int .i64 b], .int .i64 l, .int .i64 h] w fun e w' => e = .returned (.string (X ++ sPort ++ L ++ wDash ++ H)) ∧ Below w.heap.size w w' := by
  have HB0 := hide (BoxV.start w #[.int .i64 a, .int .i64 b] 42)
  have k0 := HB0.out.cell 0 _ rfl
  have k1 := HB0.out.cell 1 _ rfl
  have s1 : sPort.size = 6 := rfl
  have s2 : wDash.size = 1 := rfl
  have s3 : wAny.size = 3 := rfl
  have CP := hide CP0
  clear CP0
  have CA := hide CA0
  clear CA0
  have CL := hide CL0
  clear CL0
  have CH := hide CH0
  clear CH0
  go_enter Tryd.func20, Tryd.ntmps20
  go_wp2_with fail
  refine (CP.out _).mono ?_
  rintro e u1 ⟨rfl, hbu⟩
  have HB1 := hide (HB0.out.next hbu)
  clear hbu k0 k1
  go_wp2_with fail
  refine (CA.out _).mono ?_
  rintro e uq ⟨rfl, huq⟩
  rw [huq]
  clear huq
  go_wp2_with fail
  refine (CL.out _).mono ?_
  rintro e u2 ⟨rfl, hbu⟩
  have HB2 := hide (HB1.out.next hbu)
  clear hbu 
  go_wp2_with fail
  refine (CH.out _).mono ?_
  rintro e u3 ⟨rfl, hbu⟩
  have HB3 := hide (HB2.out.next hbu)
  clear hbu 
  go_wp2_with fail
  go_ret
  exact ⟨rfl, HB3.out.1⟩
theorem specSide (a b l h : Int) (w : World) (hp : prefB a b = true) (hq : portB l h = true) : Calls Tryd.prog 20 #[.agg #[.int .i64 a, .int .i64 b], .int .i64 l, .int .i64 h] w fun e w' => e = .returned (.string (sideT a b l h)) ∧ Below w.heap.size w w' := by
  obtain ⟨l0, l1, h0, h1, _⟩ := portB_parts hq
  have e5 : (10 : Nat) ^ (4 + 1) = 100000 := rfl
  have CA := fun W => specAll_walk l h W
  have CP := fun W => specShowP_yes a b W hp
  have CL := fun W => decG_walk 4 l.toNat (by rw [e5]; omega) (by omega) W
  have CH := fun W => decG_walk 4 h.toNat (by rw [e5]; omega) (by omega) W
  rw [show ((l.toNat : Nat) : Int) = l by omega] at CL
  rw [show ((h.toNat : Nat) : Int) = h by omega] at CH
  have s1 : (showP a b).size ≤ 100 := by have := showP_size a b; omega
  have s2 : (decG l.toNat).size ≤ 100 := by have := decG_port l0 l1; omega
  have s3 : (decG h.toNat).size ≤ 100 := by have := decG_port h0 h1; omega
  unfold sideT preW
  by_cases hA : allP l h = true
  · rw [if_pos hA]
    rw [hA] at CA
    by_cases hb : 0 < b
    · rw [if_pos hb]; exact specSide_1a a b l h w _ ⟨#[]⟩ ⟨#[]⟩ s1 (by decide) (by decide) hb CP CA
    · rw [if_neg hb]; exact specSide_0a a b l h w ⟨#[]⟩ ⟨#[]⟩ ⟨#[]⟩ (by decide) (by decide) (by decide) hb CA
  · rw [if_neg hA]
    rw [show allP l h = false by simpa using hA] at CA
    by_cases hl : l = h
    · rw [if_pos hl]
      by_cases hb : 0 < b
      · rw [if_pos hb]; exact specSide_1e a b l h w _ _ ⟨#[]⟩ s1 s2 (by decide) hb (by simp [hl]) CP CA CL
      · rw [if_neg hb]; exact specSide_0e a b l h w ⟨#[]⟩ _ ⟨#[]⟩ (by decide) s2 (by decide) hb (by simp [hl]) CA CL
    · rw [if_neg hl]
      by_cases hb : 0 < b
      · rw [if_pos hb]; exact specSide_1d a b l h w _ _ _ s1 s2 s3 hb (by simpa using hl) CP CA CL CH
      · rw [if_neg hb]; exact specSide_0d a b l h w ⟨#[]⟩ _ _ (by decide) s2 s3 hb (by simpa using hl) CA CL CH
end Go.Proofs.YtjojeplffefnpaaDoor
