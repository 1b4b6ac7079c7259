/-
Contracts of functions of this seat.
-/
import Derived.Test.YtmgjagajcmeikalDoorRows
import Derived.WalkKit
import Derived.ProofKit
import Derived.OpenShut
import Derived.Test.YtmgjagajcmeikalDoorNum
import Derived.ArgAppend
namespace Go.Proofs.YtmgjagajcmeikalDoor
open Go.ChangeShapes Go.WideShapes Go.ChangeAt Go.RowKit
set_option linter.unusedVariables false
def numX (l : List UInt8) (most : Int) : Int := if numOK l most then numV l else 0
theorem numX_no {l : List UInt8} {most : Int} (h : numOK l most = false) : numX l most = 0 := by unfold numX; rw [h]; rfl
theorem numX_yes {l : List UInt8} {most : Int} (h : numOK l most = true) : numX l most = numV l := by unfold numX; rw [h]; rfl
theorem ret_intbool {k : IntKind} {a b : Int} {x y : Bool} (h : a = b) (h2 : x = y) : Ending.returned (.tuple #[.int k a, .bool x]) = .returned (.tuple #[.int k b, .bool y]) := by rw [h, h2]
set_option maxHeartbeats 1000000 in
theorem decimal_walk (l : List UInt8) (most : Int) (w : World) (hl : l.length ≤ 1048576) (hm : 0 ≤ most ∧ most ≤ 1000000) :
    Calls Tryd.prog 18 #[.string (bs l), .int .i64 most] w fun e w' => e = .returned (.tuple #[.int .i64 (numX l most), .bool (numOK l most)]) ∧ w' = w := by
  have hsz := bs_size l
  by_cases hz : l = []
  · have HN : Hid (numOK l most = false) := hide (by rw [hz]; rfl)
    have h0 : (bs l).size = 0 := by rw [hsz, hz]; rfl
    have he : ((bs l).toList == []) = true := by rw [bs_toList, hz]; rfl
    clear hz hsz
    generalize bs l = s at *
    go_enter Tryd.func18, Tryd.ntmps18
    go_wp2_with fail
    all_goals
      go_ret2
      exact ⟨ret_intbool (numX_no HN.out).symm HN.out.symm, rfl⟩
  · have he : ((bs l).toList == []) = false := by rw [bs_toList]; exact beq_eq_false_iff_ne.2 hz
    have h1 : 0 < (bs l).size := by rw [hsz]; exact List.length_pos_iff.2 hz
    have HG : Hid (∀ i (h : i < l.length) (h2 : i < (bs l).size), (bs l)[i]'h2 = l[i]'h) := hide (fun i h h2 => bs_get h)
    have HZ := hide hz
    have HL : Hid (ledN l = (decide (1 < l.length) && decide (((bs l)[0]'h1).toNat = 48))) := hide (by
      rw [bs_get (by omega)]
      unfold ledN
      congr 1
      rw [List.head?_eq_getElem?, List.getElem?_eq_getElem (by omega)]
      rw [Bool.eq_iff_iff]
      simp [← UInt8.toNat_inj])
    clear hz
    generalize bs l = s at *
    obtain ⟨c0, hc0, hcb0⟩ : ∃ c : Nat, (s[0]'h1).toNat = c ∧ c < 256 := ⟨_, rfl, (s[0]'h1).toNat_lt⟩
    rw [hc0] at HL
    by_cases hled : 1 < l.length ∧ c0 = 48
    · obtain ⟨hled, rfl⟩ := hled
      have HN : Hid (numOK l most = false) := hide (by unfold numOK; rw [HL.out, decide_eq_true hled]; simp)
      go_enter Tryd.func18, Tryd.ntmps18
      go_wp2_with fail
      all_goals
        go_ret2
        exact ⟨ret_intbool (numX_no HN.out).symm HN.out.symm, rfl⟩
    · have HF : Hid (ledN l = false) := hide (by
        rw [HL.out]; simp only [Bool.and_eq_false_iff, decide_eq_false_iff_not]; omega)
      have key : l.length ≤ 1 ∨ (1 < l.length ∧ ((c0 : Int) == 48) = false) := by
        by_cases h : l.length ≤ 1
        · exact .inl h
        · exact .inr ⟨by omega, by rw [beq_eq_false_iff_ne]; omega⟩
      clear hled
      rcases key with hk | ⟨hk, hk2⟩
      all_goals
        go_enter Tryd.func18, Tryd.ntmps18
        go_wp2_with fail
        go_loop [6, 23] (fun n t => ∃ i : Nat, i ≤ l.length ∧ t = .int .i64 i ∧ n = .int .i64 (numV (l.take i)) ∧ Hid ((l.take i).all dgt = true) ∧ 0 ≤ numV (l.take i) ∧ numV (l.take i) ≤ most) (fun _ t => l.length - (intOf t).toNat)
        case atStart => exact ⟨0, by omega, rfl, rfl, hide rfl, by simp [numV], by simp [numV]; omega⟩
        case round =>
          obtain ⟨i, hi, rfl, rfl, HD, hn0, hn1⟩ := hrel
          by_cases hlt : i < l.length
          · have hs2 : i < s.size := by omega
            obtain ⟨c, hc, HC⟩ : ∃ c : Int, ((s[i]'hs2).toNat : Int) = c ∧ Hid (c = (l[i].toNat : Int)) := ⟨_, rfl, hide (by rw [HG.out i hlt hs2])⟩
            have hcb : 0 ≤ c ∧ c ≤ 255 := by rw [HC.out]; have := l[i].toNat_lt; omega
            have HT : Hid (numV (l.take (i + 1)) = numV (l.take i) * 10 + (c - 48)) := hide (by rw [numV_take l i hlt, HC.out])
            generalize numV (l.take i) = x at *
            by_cases hdg : 48 ≤ c ∧ c ≤ 57
            · obtain ⟨hd1, hd2⟩ := hdg
              have HD2 : Hid ((l.take (i + 1)).all dgt = true) := hide (all_succ hlt HD.out (dgt_iff.2 (by have := HC.out; omega)))
              by_cases hbig : x * 10 + (c - 48) ≤ most
              · go_wp2_with fail
                exact ⟨⟨i + 1, by omega, by go_num, by rw [HT.out], HD2, by rw [HT.out]; omega, by rw [HT.out]; omega⟩, by simp [intOf]; omega⟩
              · have HN : Hid (numOK l most = false) := hide (numOK_more (k := i + 1) (by omega) (by rw [HT.out]; omega))
                have hbig2 : most < x * 10 + (c - 48) := by omega
                clear hbig
                go_wp2_with fail
                go_ret2
                exact ⟨ret_intbool (numX_no HN.out).symm HN.out.symm, rfl⟩
            · have HN : Hid (numOK l most = false) := hide (numOK_nodigit (k := i) hlt (by
                cases e : dgt l[i] with
                | false => rfl
                | true => exact absurd (dgt_iff.1 e) (by have := HC.out; omega)))
              by_cases hd1 : c < 48
              · clear hdg
                go_wp2_with fail
                all_goals
                  go_ret2
                  exact ⟨ret_intbool (numX_no HN.out).symm HN.out.symm, rfl⟩
              · have hd2 : 57 < c := by omega
                have hd3 : 48 ≤ c := by omega
                clear hdg hd1
                go_wp2_with fail
                all_goals
                  go_ret2
                  exact ⟨ret_intbool (numX_no HN.out).symm HN.out.symm, rfl⟩
          · have hi' : i = l.length := by omega
            subst hi'
            rw [List.take_length] at hn0 hn1 HD ⊢
            have HN : Hid (numOK l most = true) := hide (by
              unfold numOK
              rw [HF.out, HD.out, decide_eq_true hn1]
              cases l with
              | nil => exact absurd rfl HZ.out
              | cons => rfl)
            generalize hx : numV l = x at *
            have HX := hide hx
            clear hx
            go_wp2_with fail
            go_ret2
            exact ⟨ret_intbool (by rw [numX_yes HN.out, HX.out]) HN.out.symm, rfl⟩

def AllD (l : List UInt8) : Prop := l.all dgt = true
theorem numF_nodigit {l : List UInt8} {m k : Nat} (h : k < l.length) (h1 : dgt l[k] = false) : numF l m = false := by
  unfold numF; rw [all_not h h1]; simp
set_option maxHeartbeats 1000000 in
theorem number_walk (l : List UInt8) (m : Nat) (w : World) (hl : l.length ≤ 1048576) (hm : m ≤ 3) :
    Calls Tryd.prog 29 #[.string (bs l), .int .i64 m] w fun e w' => ∃ n : Int, e = .returned (.tuple #[.int .i64 n, .bool (numF l m)]) ∧ (numF l m = true → n = numV l) ∧ Below w.heap.size w w' := by
  have hsz := bs_size l
  by_cases hz : l.length < 1
  · have HN : Hid (numF l m = false) := hide (by have : l = [] := List.length_eq_zero_iff.1 (by omega); rw [this]; rfl)
    generalize bs l = s at *
    go_enter Tryd.func29, Tryd.ntmps29
    go_wp2_with fail
    all_goals
      go_ret2
      exact ⟨0, ret_intbool rfl HN.out.symm, fun h => (by rw [HN.out] at h; cases h), Below.refl _ _⟩
  · by_cases hbig : m < l.length
    · have HN : Hid (numF l m = false) := hide (by unfold numF; rw [decide_eq_false (by omega)]; simp)
      generalize bs l = s at *
      go_enter Tryd.func29, Tryd.ntmps29
      go_wp2_with fail
      all_goals
        go_ret2
        exact ⟨0, ret_intbool rfl HN.out.symm, fun h => (by rw [HN.out] at h; cases h), Below.refl _ _⟩
    · have h1 : 1 ≤ l.length := by omega
      have h2 : l.length ≤ m := by omega
      clear hz hbig hl
      have HG : Hid (∀ i (h : i < l.length) (h2 : i < (bs l).size), (bs l)[i]'h2 = l[i]'h) := hide (fun i h h2 => bs_get h)
      have HTL : Hid ((bs l).toList = l) := hide (bs_toList l)
      generalize bs l = s at *
      go_enter Tryd.func29, Tryd.ntmps29
      go_wp2_with fail
      go_loop [6, 7] (fun n t => ∃ i : Nat, i ≤ l.length ∧ t = .int .i64 i ∧ n = .int .i64 (numV (l.take i)) ∧ Hid (AllD (l.take i)) ∧ 0 ≤ numV (l.take i) ∧ numV (l.take i) ≤ 1000000) (fun _ t => l.length - (intOf t).toNat)
      case atStart => exact ⟨0, by omega, rfl, rfl, hide rfl, by simp [numV], by simp [numV]⟩
      case round =>
        obtain ⟨i, hi, rfl, rfl, HD, hn0, hn1⟩ := hrel
        by_cases hlt : i < l.length
        · have hs2 : i < s.size := by omega
          obtain ⟨c, hc, HC⟩ : ∃ c : Int, ((s[i]'hs2).toNat : Int) = c ∧ Hid (c = (l[i].toNat : Int)) := ⟨_, rfl, hide (by rw [HG.out i hlt hs2])⟩
          have hcb : 0 ≤ c ∧ c ≤ 255 := by rw [HC.out]; have := l[i].toNat_lt; omega
          have HT : Hid (numV (l.take (i + 1)) = numV (l.take i) * 10 + (c - 48)) := hide (by rw [numV_take l i hlt, HC.out])
          by_cases hdg : 48 ≤ c ∧ c ≤ 57
          · obtain ⟨hd1, hd2⟩ := hdg
            have HD2 : Hid (AllD (l.take (i + 1))) := hide (all_succ hlt HD.out (dgt_iff.2 (by have := HC.out; omega)))
            have HB : Hid (numV (l.take (i + 1)) ≤ 1000000) := hide (by
              have h4 := (dec_digits (l.take (i + 1)) (by intro e; have := congrArg List.length e; rw [List.length_take, List.length_nil] at this; omega) (by rw [List.length_take]; omega) HD2.out).2.1
              omega)
            generalize numV (l.take i) = x at *
            go_wp2_with fail
            exact ⟨⟨_, _, .int .i64 (x * 10 + (c - 48)), .int .i64 ((i : Int) + 1), ⟨i + 1, by omega, by go_num, by rw [HT.out], HD2, by rw [HT.out]; omega, HB.out⟩, rfl, rfl, rfl, rfl⟩, by simp [intOf]; omega⟩
          · have HN : Hid (numF l m = false) := hide (numF_nodigit (k := i) hlt (by
              cases e : dgt l[i] with
              | false => rfl
              | true => exact absurd (dgt_iff.1 e) (by have := HC.out; omega)))
            generalize numV (l.take i) = x at *
            by_cases hd1 : c < 48
            · clear hdg
              go_wp2_with fail
              all_goals
                go_ret2
                exact ⟨0, ret_intbool rfl HN.out.symm, fun h => (by rw [HN.out] at h; cases h), Below.refl _ _⟩
            · have hd2 : 57 < c := by omega
              have hd3 : 48 ≤ c := by omega
              clear hdg hd1
              go_wp2_with fail
              all_goals
                go_ret2
                exact ⟨0, ret_intbool rfl HN.out.symm, fun h => (by rw [HN.out] at h; cases h), Below.refl _ _⟩
        · have hi' : i = l.length := by omega
          subst hi'
          rw [List.take_length] at hn0 hn1 HD ⊢
          have hd := dec_digits l (by intro e; rw [e] at h1; simp at h1) (by omega) HD.out
          have HF : Hid (numF l m = !ledN l) := hide (by
            unfold numF
            rw [HD.out, decide_eq_true h2]
            cases l with
            | nil => simp at h1
            | cons => rfl)
          have hx3 := hd.2.1
          have HQ : Hid ((ByteArray.toList ⟨decL (numV l)⟩ == s.toList) = numF l m) := hide (by
            rw [ByteArray.toList_eq, HTL.out, HF.out]; exact hd.2.2)
          clear hd
          generalize hx : numV l = x at *
          have HX := hide hx
          clear hx
          go_wp2_with (go_at_call 37; refine (dec_walk _ _ (by omega) (by omega)).mono ?_; rintro e w' ⟨rfl, hb⟩)
          go_ret2
          exact ⟨x, ret_intbool rfl HQ.out, fun _ => HX.out.symm ▸ rfl, hb⟩

/-- A text cut at every byte of one value. -/
def splitL (c : UInt8) : List UInt8 → List (List UInt8)
  | [] => [[]]
  | x :: xs => if x = c then [] :: splitL c xs else (x :: (splitL c xs).headD []) :: (splitL c xs).tail
theorem split_no (c : UInt8) : ∀ a : List UInt8, c ∉ a → splitL c a = [a]
  | [], _ => rfl
  | x :: xs, h => by
    have h1 : ¬ x = c := fun e => h (by rw [e]; simp)
    have ih := split_no c xs (fun e => h (by simp [e]))
    rw [splitL, if_neg h1, ih]; rfl
theorem split_yes (c : UInt8) (b : List UInt8) : ∀ a : List UInt8, c ∉ a → splitL c (a ++ c :: b) = a :: splitL c b
  | [], _ => by rw [List.nil_append, splitL, if_pos rfl]
  | x :: xs, h => by
    have h1 : ¬ x = c := fun e => h (by rw [e]; simp)
    have ih := split_yes c b xs (fun e => h (by simp [e]))
    rw [List.cons_append, splitL, if_neg h1, ih]; rfl
theorem cut_at (l : List UInt8) (f i : Nat) (hf : f ≤ i) (hi : i < l.length) : l.drop f = (l.drop f).take (i - f) ++ l[i] :: l.drop (i + 1) := by
  rw [← List.drop_eq_getElem_cons hi]
  conv => lhs; rw [← List.take_append_drop (i - f) (l.drop f)]
  rw [List.drop_drop, show f + (i - f) = i by omega]
theorem notin_more {l : List UInt8} {c : UInt8} {f i : Nat} (hf : f ≤ i) (hi : i < l.length) (h : c ∉ (l.drop f).take (i - f)) (hx : ¬ l[i] = c) : c ∉ (l.drop f).take (i + 1 - f) := by
  rw [show i + 1 - f = (i - f) + 1 by omega, List.take_succ_eq_append_getElem (by rw [List.length_drop]; omega)]
  intro e
  rcases List.mem_append.1 e with e | e
  · exact h e
  · simp only [List.mem_singleton, List.getElem_drop] at e
    have : l[f + (i - f)]'(by omega) = l[i] := by congr 1; omega
    rw [this] at e; exact hx e.symm

theorem Tryd.infoS : (Tryd.prog.info? 9).map (fun i => (i.zero, i.size, i.bytes)) = some (some (.string ⟨#[]⟩), 1, 16) := by kernel_rfl
def sval (ps : List (List UInt8)) : List Value := ps.map (fun l => Value.string (bs l))
theorem sval_len (ps : List (List UInt8)) : (sval ps).length = ps.length := by unfold sval; rw [List.length_map]
/-- A slice of texts in memory of this call's own, from block B on. -/
def OwnS (w : World) (B : Nat) (v : Value) (ps : List (List UInt8)) : Prop := w.ownsRow B 9 1 v ps.length (sval ps)
theorem oneCellsS (ps : List (List UInt8)) : ∀ u ∈ sval ps, u.oneCell' = true := by
  intro u hu
  unfold sval at hu
  obtain ⟨z, _, rfl⟩ := List.mem_map.1 hu
  rfl
theorem OwnS.app {w : World} {B : Nat} {v : Value} {ps qs : List (List UInt8)} {n : Nat} (h : w.ownsRow B 9 1 v n (sval ps ++ sval qs)) (hn : n = ps.length + qs.length) : OwnS w B v (ps ++ qs) := by
  have e : sval (ps ++ qs) = sval ps ++ sval qs := by unfold sval; rw [List.map_append]
  unfold OwnS
  rw [e, List.length_append, ← hn]; exact h
theorem cell_oneS (w : World) (s : ByteArray) (p : List UInt8) (t : Nat) (hs : s = bs p) : ∀ j u, (sval [p])[j]? = some u → (w.alloc (.cells #[.string s] t)).cell? ((⟨w.heap.size, 0, none⟩ : Addr).add j) = some u := by
  intro j u hu
  match j with
  | 0 =>
    simp [sval] at hu
    subst hu
    rw [Addr.add_lit, ← hs]
    exact cell_of_row _ w.heap.size 0 _ t (0, 0) (heap_alloc_new w _)
  | k + 1 => simp [sval] at hu
set_option maxHeartbeats 1000000 in
theorem l02Cut_walk (l : List UInt8) (c : UInt8) (w : World) (hl : l.length ≤ 20) :
    Calls Tryd.prog 27 #[.string (bs l), .int .u8 (c.toNat : Int)] w fun e w' => ∃ v : Value, e = .returned v ∧ OwnS w' w.heap.size v (splitL c l) ∧ Below w.heap.size w w' := by
  obtain ⟨i, hi, hz0, hz1, hz2⟩ := info_parts Tryd.infoS
  have HI := hide hi
  have HZ0 := hide hz0
  have HZ1 := hide hz1
  have HZ2 := hide hz2
  clear hi hz0 hz1 hz2
  have hsz := bs_size l
  have HG : Hid (∀ i (h : i < l.length) (h2 : i < (bs l).size), (bs l)[i]'h2 = l[i]'h) := hide (fun i h h2 => bs_get h)
  have HX : Hid (∀ a b, (bs l).extract a b = bs ((l.drop a).take (b - a))) := hide (bs_extract l)
  obtain ⟨cc, hcc, HCC⟩ : ∃ x : Int, (c.toNat : Int) = x ∧ Hid (x = (c.toNat : Int)) := ⟨_, rfl, hide rfl⟩
  have hccb : 0 ≤ cc ∧ cc ≤ 255 := by rw [← hcc]; have := c.toNat_lt; omega
  rw [hcc]
  clear hcc
  generalize bs l = s at *
  go_enter Tryd.func27, Tryd.ntmps27
  go_wp2_with fail
  have hst : OwnS (w.alloc (.cells #[] 9)) w.heap.size (.slice (some ⟨w.heap.size, 0, none⟩) 0 0) [] :=
    World.ownsRow_lit (base := w.heap.size) (e := 9) (size := 1) w #[] 0 (Nat.le_refl _) (by decide) rfl
  have HST := hide hst
  have hb0 := (Below.refl w.heap.size w).alloc (Nat.le_refl _) (.cells #[] 9)
  clear hst
  generalize w.alloc (.cells #[] 9) = W at *
  go_loopw [5, 6, 7] (fun o f t w2 => ∃ (k g : Nat) (ps : List (List UInt8)), k ≤ l.length ∧ g ≤ k ∧ t = .int .i64 k ∧ f = .int .i64 g ∧ ps.length ≤ k ∧ Hid (OwnS w2 w.heap.size o ps) ∧ Below w.heap.size w w2 ∧ Hid (splitL c l = ps ++ splitL c (l.drop g)) ∧ Hid (c ∉ (l.drop g).take (k - g))) (fun _ _ t _ => l.length - (intOf t).toNat)
  case atStart => exact ⟨0, 0, [], by omega, by omega, rfl, rfl, by simp, HST, hb0, hide rfl, hide (by simp)⟩
  case round =>
    obtain ⟨k, g, ps, hk, hg, rfl, rfl, hps, HO, hb, HS, HN⟩ := hrel
    clear hb0
    by_cases hlt : k < l.length
    · have hs2 : k < s.size := by omega
      obtain ⟨x, hx, HC⟩ : ∃ x : Int, ((s[k]'hs2).toNat : Int) = x ∧ Hid (x = (l[k].toNat : Int)) := ⟨_, rfl, hide (by rw [HG.out k hlt hs2])⟩
      have hxb : 0 ≤ x ∧ x ≤ 255 := by rw [HC.out]; have := l[k].toNat_lt; omega
      by_cases hxc : x = cc
      · have HL : Hid (l[k] = c) := hide (UInt8.toNat_inj.1 (by have := HC.out; have := HCC.out; omega))
        have HE := hide (HX.out g k)
        subst hxc
        go_wp2_with (first | (at_builtin; refine wpList_append_own _ rfl _ _ 62 rfl w.heap.size 9 i _ 1 16 Tryd.underlying62 HI.out HZ0.out HZ1.out HZ2.out rfl (by decide) u5 ps.length (sval ps) rfl (HO.out.alloc _) ⟨wr.heap.size, 0, none⟩ 1 1 (sval [(l.drop g).take (k - g)]) rfl rfl (cell_oneS _ _ _ _ HE.out) (oneCellsS _) (by unfold maxLen; omega) (by omega) (by have := hb.size; rw [World.size_alloc]; omega) ?_))
        intro v' w3 hown' hgrow hnil
        have hlo := HO.out.lt
        have HO3 := hide (OwnS.app hown' rfl)
        have hb3 : Below w.heap.size w w3 := (hb.alloc hb.size _).grown hgrow (by have := hb.size; rw [World.size_alloc]; omega) (fun k hk => (hlo k hk).1)
        have HS3 : Hid (splitL c l = (ps ++ [(l.drop g).take (k - g)]) ++ splitL c (l.drop (k + 1))) := hide (by
          rw [HS.out, List.append_assoc]
          congr 1
          conv => lhs; rw [cut_at l g k hg hlt, HL.out]
          exact split_yes c _ _ HN.out)
        clear hown' hnil hgrow hb hlo
        go_wp2_with fail
        exact ⟨⟨k + 1, k + 1, _, by omega, by omega, by go_num, by go_num, by rw [List.length_append]; show _ + 1 ≤ _; omega, HO3, hb3, HS3, hide (by simp)⟩, by simp [intOf]; omega⟩
      · have hxn : (x == cc) = false := beq_eq_false_iff_ne.2 hxc
        have HN2 : Hid (c ∉ (l.drop g).take (k + 1 - g)) := hide (notin_more hg hlt HN.out (fun e => hxc (by rw [HC.out, HCC.out, e])))
        clear hxc
        go_wp2_with fail
        exact ⟨⟨k + 1, g, ps, by omega, by omega, by go_num, rfl, by omega, HO, hb, HS, HN2⟩, by simp [intOf]; omega⟩
    · have hk' : k = l.length := by omega
      subst hk'
      have HE := hide (HX.out g l.length)
      have HTK : Hid ((l.drop g).take (l.length - g) = l.drop g) := hide (List.take_of_length_le (by rw [List.length_drop]; omega))
      have HS3 : Hid (splitL c l = ps ++ [l.drop g]) := hide (by
        rw [HS.out]; congr 1; apply split_no
        have := HN.out
        rw [List.take_of_length_le (by rw [List.length_drop]; omega)] at this
        exact this)
      go_wp2_with (first | (at_builtin; refine wpList_append_own _ rfl _ _ 62 rfl w.heap.size 9 i _ 1 16 Tryd.underlying62 HI.out HZ0.out HZ1.out HZ2.out rfl (by decide) u5 ps.length (sval ps) rfl (HO.out.alloc _) ⟨wr.heap.size, 0, none⟩ 1 1 (sval [l.drop g]) rfl rfl (cell_oneS _ _ _ _ (by rw [← HTK.out]; exact HE.out)) (oneCellsS _) (by unfold maxLen; omega) (by omega) (by have := hb.size; rw [World.size_alloc]; omega) ?_))
      intro v' w3 hown' hgrow hnil
      have hlo := HO.out.lt
      have HO3 := hide (OwnS.app hown' rfl)
      have hb3 : Below w.heap.size w w3 := (hb.alloc hb.size _).grown hgrow (by have := hb.size; rw [World.size_alloc]; omega) (fun k hk => (hlo k hk).1)
      clear hown' hnil hgrow hb hlo
      go_wp2_with fail
      go_ret
      exact ⟨v', rfl, by rw [HS3.out]; exact HO3.out, hb3⟩
end Go.Proofs.YtmgjagajcmeikalDoor
