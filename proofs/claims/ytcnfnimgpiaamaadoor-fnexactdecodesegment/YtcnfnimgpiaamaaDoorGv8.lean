/-
Contracts of functions of this seat.
-/
import Derived.Test.YtcnfnimgpiaamaaDoorRows
import Derived.WalkKit
import Derived.ProofKit
import Derived.OpenShut
import Derived.Test.YtcnfnimgpiaamaaDoorGv6
namespace Go.Proofs.YtcnfnimgpiaamaaDoor
open Go.ChangeShapes Go.WideShapes Go.ChangeAt Go.RowKit
set_option linter.unusedVariables false
set_option maxRecDepth 100000
theorem tnum_atq (zs : List Int) (p : Nat) (h : p < zs.length) : tnum ((zs.drop p).take 1) = zs.getD p 0 := by
  have e : (zs.drop p).take 1 = [zs.getD p 0] := by
    rw [List.drop_eq_getElem_cons h, List.take_succ_cons, List.take_zero, List.getD_eq_getElem?_getD, List.getElem?_eq_getElem h]
    rfl
  rw [e]
  simp [tnum]
set_option maxHeartbeats 2000000 in
/-- firstStretches of the program: of nothing. -/
theorem firstS_none (w : World) :
    Calls Tryd.prog 90 #[.slice none 0 0] w fun e w' => e = .returned (.slice none 0 0) ∧ Below w.heap.size w w' := by
  have HC0 : Hid (Cur (w.alloc (.cells #[.slice none 0 0, .int .i64 0, .nilIface] 69)) w.heap.size (.slice none 0 0) 0 .nilIface) := hide (heap_alloc_new _ _)
  have HB0 := hide ((Below.refl w.heap.size w).alloc (Nat.le_refl _) (.cells #[.slice none 0 0, .int .i64 0, .nilIface] 69))
  go_enter Tryd.func90, Tryd.ntmps90
  go_wp2_with fail
  generalize w.alloc (.cells #[.slice none 0 0, .int .i64 0, .nilIface] 69) = W0 at *
  refine wp_loop_rounds 1 ?_
  rw [rounds_succ]
  go_wp2_with fail
  refine (left_walk w.heap.size 0 0 0 none .nilIface W0 HC0.out (by omega) (Nat.le_refl _)).mono ?_
  rintro e w2 ⟨rfl, d, rfl⟩
  have HB2 := hide (below_drewN HB0.out d)
  have hz : (((0 : Nat) : Int) - ((0 : Nat) : Int)) = 0 := by omega
  clear HB0 HC0
  generalize W0.drewN d = W2 at *
  go_wp2_with fail
  exact bodyPost_ret (v := .slice none 0 0) (by simp [results, Tryd.results90, go_sem]) rfl ⟨rfl, HB2.out⟩
/-- What takeValue gives: nothing, and an error, .. -/
def TvBad (p n : Nat) (L zs : List Int) : Prop := n ≤ p ∨ zs.getD p 0 < 2 ∨ (n : Int) < (p : Int) - 1 + zs.getD p 0 ∨ (L ≠ [] ∧ zs.getD p 0 - 2 ∉ L)
/-- .. or a value. -/
def TvR (g p n cap b off : Nat) (L zs : List Int) (w : World) (e : Ending) (w' : World) : Prop :=
  (TvBad p n L zs ∧ e = .returned (.slice none 0 0) ∧ ∃ c p', p' ≤ n ∧ Cur w' g (.slice (some ⟨b, off, none⟩) n cap) p' (wErr c) ∧ w.grownBy w' (some g)) ∨
  (∃ a' k c', ¬ TvBad p n L zs ∧ e = .returned (.slice a' k c') ∧ zs.getD p 0 = (k : Int) + 2 ∧ p + 1 + k ≤ n ∧ k ≤ c' ∧ (0 < k → a' = some ⟨b, off + (p + 1), none⟩) ∧ Cur w' g (.slice (some ⟨b, off, none⟩) n cap) (p + 1 + k) .nilIface ∧ w.grownBy w' (some g))
theorem takeV_any (g p n cap b off rn rc : Nat) (ra : Option Addr) (L zs : List Int) (w : World) (hc : Cur w g (.slice (some ⟨b, off, none⟩) n cap) p .nilIface) (hn : n ≤ 1048576) (hcap : n ≤ cap) (hz : zs.length = n) (ha : Arr w (some ⟨b, off, none⟩) zs) (hb : b ≠ g)
    (hr : ArrI w ra L) (hrn : L.length = rn) (hrm : rn ≤ 16) (hrg : ∀ b off, ra = some ⟨b, off, none⟩ → b ≠ g) (hp : p ≤ n) :
    Calls Tryd.prog 89 #[.pointer (some ⟨g, 0, none⟩), .slice ra rn rc] w (TvR g p n cap b off L zs w) := by
  by_cases hpn : p = n
  · subst hpn
    refine (takeV_over g p cap rn rc _ ra L w hc hn hr hrn hrm hrg).mono ?_
    rintro e w' ⟨rfl, hc', hg'⟩
    exact .inl ⟨.inl (Nat.le_refl _), rfl, 2, p, Nat.le_refl _, hc', hg'⟩
  · have hlt : p < n := by omega
    have ht : tnum ((zs.drop p).take 1) = zs.getD p 0 := tnum_atq zs p (by omega)
    have hbd := getD_bd ha.1 p
    by_cases hL : L = [] ∨ zs.getD p 0 - 2 ∈ L
    · by_cases hk : zs.getD p 0 < 2 ∨ (n : Int) < (p : Int) - 1 + zs.getD p 0
      · refine (takeV_far g p n cap b off rn rc ra L zs w hc hn hcap hz ha hb hr hrn hrm hrg hlt (by rw [ht]; exact hbd.1) (by rw [ht]; exact hbd.2) (by rw [ht]; exact hk) (by rw [ht]; exact hL)).mono ?_
        rintro e w' ⟨rfl, hc', hg'⟩
        exact .inl ⟨by rcases hk with h | h; exact .inr (.inl h); exact .inr (.inr (.inl h)), rfl, 2, p + 1, by omega, hc', hg'⟩
      · obtain ⟨k, hy⟩ : ∃ k : Nat, zs.getD p 0 = (k : Int) + 2 := ⟨(zs.getD p 0 - 2).toNat, by omega⟩
        have hgood : ¬ TvBad p n L zs := by
          rintro (h | h | h | ⟨h1, h2⟩)
          · omega
          · exact hk (.inl h)
          · exact hk (.inr h)
          · rcases hL with h | h
            · exact h1 h
            · exact h2 h
        have hL2 : L = [] ∨ (k : Int) ∈ L := by
          rcases hL with h | h
          · exact .inl h
          · rw [hy, show (k : Int) + 2 - 2 = (k : Int) by omega] at h; exact .inr h
        by_cases hpc : p + 1 < cap
        · refine (takeV_ok g p n cap b off k rn rc ra L zs w hc hn hcap hz ha hb hr hrn hrm hrg hlt (by rw [ht, hy]; omega) (by omega) hpc hL2).mono ?_
          rintro e w' ⟨rfl, hc', hg'⟩
          exact .inr ⟨_, k, _, hgood, rfl, hy, by omega, by omega, fun _ => rfl, hc', hg'⟩
        · have hk0 : k = 0 := by omega
          subst hk0
          refine (takeV_last g p n cap b off rn rc ra L zs w hc hn hcap hz ha hb hr hrn hrm hrg hlt (by rw [ht, hy]; rfl) hL2).mono ?_
          rintro e w' ⟨⟨a', rfl⟩, hc', hg'⟩
          exact .inr ⟨a', 0, _, hgood, rfl, hy, by omega, by omega, fun h => absurd h (by omega), hc', hg'⟩
    · have hL1 : L ≠ [] := fun e => hL (.inl e)
      have hL2 : zs.getD p 0 - 2 ∉ L := fun e => hL (.inr e)
      refine (takeV_size g p n cap b off rn rc ra L zs w hc hn hcap hz ha hb hr hrn (by rw [← hrn]; exact List.length_pos_iff.2 hL1) hrm hrg hlt (by rw [ht]; exact hbd.1) (by rw [ht]; exact hbd.2) (by rw [ht]; exact hL2)).mono ?_
      rintro e w' ⟨rfl, hc', hg'⟩
      exact .inl ⟨.inr (.inr (.inr ⟨hL1, hL2⟩)), rfl, 10, p + 1, by omega, hc', hg'⟩

theorem dropD (zs : List Int) (q j : Nat) : (zs.drop q).getD j 0 = zs.getD (q + j) 0 := by
  rw [List.getD_eq_getElem?_getD, List.getElem?_drop, ← List.getD_eq_getElem?_getD]
theorem rdq_end {zs : List Int} {q : Nat} {st : OSt} (h : zs.length ≤ q ∨ zs.getD q 0 = 0) : rdO (zs.drop q) st = some st := by
  refine rdO_end ?_
  rcases h with h | h
  · exact .inl (by rw [List.length_drop]; omega)
  · exact .inr (by rw [dropD]; exact h)
theorem rdq_pad {zs : List Int} {q : Nat} {st : OSt} (hq : q < zs.length) (h : zs.getD q 0 = 1) : rdO (zs.drop q) st = rdO (zs.drop (q + 1)) st := by
  rw [rdO_pad (by rw [List.length_drop]; omega) (by rw [dropD]; exact h), List.drop_drop]
/-- The sizes that an option may have. -/
def optL (k : Int) : List Int := if k = 2 then [2] else if k = 3 then [1] else if k = 4 then [0] else if k = 5 then [8, 16, 24, 32] else []
theorem rdq_slice {zs : List Int} {q k : Nat} (hy : zs.getD (q + 1) 0 = (k : Int) + 2) : ((zs.drop q).take ((zs.drop q).getD 1 0).toNat).drop 2 = (zs.drop (q + 2)).take k := by
  rw [dropD, hy, List.drop_take, List.drop_drop, show ((k : Int) + 2).toNat - 2 = k by omega]
theorem rdq_some {zs : List Int} {q k : Nat} {st st' : OSt} (hq : q < zs.length) (h0 : zs.getD q 0 ≠ 0) (h1 : zs.getD q 0 ≠ 1) (hy : zs.getD (q + 1) 0 = (k : Int) + 2) (hk : q + 2 + k ≤ zs.length) (ho : opt1 (zs.getD q 0) ((zs.drop (q + 2)).take k) st = some st') : rdO (zs.drop q) st = rdO (zs.drop (q + 2 + k)) st' := by
  rw [rdO_some (s' := st') (by rw [List.length_drop]; omega) (by rw [dropD]; exact h0) (by rw [dropD]; exact h1) (by rw [List.length_drop, dropD, hy]; omega) (by rw [rdq_slice hy, dropD]; exact ho), List.drop_drop, dropD, hy]
  congr 2
  omega
theorem rdq_bad {zs : List Int} {q n : Nat} {st : OSt} (hn : zs.length = n) (hq : q < n) (h0 : zs.getD q 0 ≠ 0) (h1 : zs.getD q 0 ≠ 1) (hb : TvBad (q + 1) n (optL (zs.getD q 0)) zs) : rdO (zs.drop q) st = none := by
  have hl : (zs.drop q).length = n - q := by rw [List.length_drop]; omega
  by_cases hg : (zs.drop q).length < 2 ∨ (zs.drop q).getD 1 0 < 2 ∨ ((zs.drop q).length : Int) < (zs.drop q).getD 1 0
  · exact rdO_bad (by omega) (by rw [dropD]; exact h0) (by rw [dropD]; exact h1) hg
  · have hg2 := hg
    rw [hl, dropD] at hg2
    obtain ⟨k, hy⟩ : ∃ k : Nat, zs.getD (q + 1) 0 = (k : Int) + 2 := ⟨(zs.getD (q + 1) 0 - 2).toNat, by omega⟩
    have hkl : ((zs.drop (q + 2)).take k).length = k := by rw [List.length_take, List.length_drop]; omega
    refine rdO_none (by omega) (by rw [dropD]; exact h0) (by rw [dropD]; exact h1) hg ?_
    rw [rdq_slice hy, dropD, Nat.add_zero]
    rcases hb with h | h | h | ⟨h2, h3⟩
    · omega
    · omega
    · omega
    · rw [hy, show (k : Int) + 2 - 2 = (k : Int) by omega] at h3
      unfold optL at h2 h3
      unfold opt1
      simp only [hkl]
      by_cases e2 : zs.getD q 0 = 2
      · rw [if_pos e2] at h3 ⊢; simp only [List.mem_cons, List.not_mem_nil, or_false] at h3; rw [if_neg (by omega)]
      · rw [if_neg e2] at h2 h3 ⊢
        by_cases e3 : zs.getD q 0 = 3
        · rw [if_pos e3] at h3 ⊢; simp only [List.mem_cons, List.not_mem_nil, or_false] at h3; rw [if_neg (by omega)]
        · rw [if_neg e3] at h2 h3 ⊢
          by_cases e4 : zs.getD q 0 = 4
          · rw [if_pos e4] at h3 ⊢; simp only [List.mem_cons, List.not_mem_nil, or_false] at h3; rw [if_neg (by omega)]
          · rw [if_neg e4] at h2 h3 ⊢
            by_cases e5 : zs.getD q 0 = 5
            · rw [if_pos e5] at h3 ⊢; simp only [List.mem_cons, List.not_mem_nil, or_false] at h3; rw [if_neg (by omega)]
            · rw [if_neg e5] at h2; exact absurd rfl h2
theorem tv_in {p n : Nat} {L zs : List Int} {k : Nat} (h : ¬ TvBad p n L zs) (hy : zs.getD p 0 = (k : Int) + 2) (hL : L ≠ []) : (k : Int) ∈ L := by
  refine Classical.byContradiction fun hc => h (.inr (.inr (.inr ⟨hL, ?_⟩)))
  rw [hy, show (k : Int) + 2 - 2 = (k : Int) by omega]
  exact hc
theorem rdq_len {zs : List Int} {q k : Nat} (hk : q + 2 + k ≤ zs.length) : ((zs.drop (q + 2)).take k).length = k := by rw [List.length_take, List.length_drop]; omega
theorem rdq_mss {zs : List Int} {q : Nat} {st : OSt} (hq : q < zs.length) (h : zs.getD q 0 = 2) (hy : zs.getD (q + 1) 0 = ((2 : Nat) : Int) + 2) (hk : q + 2 + 2 ≤ zs.length) : rdO (zs.drop q) st = rdO (zs.drop (q + 2 + 2)) { st with m := tnum ((zs.drop (q + 2)).take 2) } :=
  rdq_some hq (by omega) (by omega) hy hk (by unfold opt1; rw [if_pos h, rdq_len hk, if_pos rfl])
theorem rdq_scale {zs : List Int} {q : Nat} {st : OSt} (hq : q < zs.length) (h : zs.getD q 0 = 3) (hy : zs.getD (q + 1) 0 = ((1 : Nat) : Int) + 2) (hk : q + 2 + 1 ≤ zs.length) : rdO (zs.drop q) st = rdO (zs.drop (q + 2 + 1)) { st with hs := true, sc := if 14 < tnum ((zs.drop (q + 2)).take 1) then 14 else tnum ((zs.drop (q + 2)).take 1) } := by
  refine rdq_some hq (by omega) (by omega) hy hk ?_
  have e : ((zs.drop (q + 2)).take 1).getD 0 0 = tnum ((zs.drop (q + 2)).take 1) := by
    have hl := rdq_len hk
    match hx : (zs.drop (q + 2)).take 1, hl with
    | [a], _ => simp [tnum]
  unfold opt1
  rw [if_neg (by omega), if_pos h, rdq_len hk, if_pos rfl, e]
theorem rdq_sok {zs : List Int} {q : Nat} {st : OSt} (hq : q < zs.length) (h : zs.getD q 0 = 4) (hy : zs.getD (q + 1) 0 = ((0 : Nat) : Int) + 2) (hk : q + 2 + 0 ≤ zs.length) : rdO (zs.drop q) st = rdO (zs.drop (q + 2 + 0)) { st with so := true } :=
  rdq_some hq (by omega) (by omega) hy hk (by unfold opt1; rw [if_neg (by omega), if_neg (by omega), if_pos h, rdq_len hk, if_pos rfl])
theorem rdq_sacks {zs : List Int} {q k : Nat} {st : OSt} (hq : q < zs.length) (h : zs.getD q 0 = 5) (hy : zs.getD (q + 1) 0 = (k : Int) + 2) (hk : q + 2 + k ≤ zs.length) (h8 : (k : Int) ∈ ([8, 16, 24, 32] : List Int)) : rdO (zs.drop q) st = rdO (zs.drop (q + 2 + k)) { st with L := skL ((zs.drop (q + 2)).take k) (min 3 (k / 8)) } := by
  simp only [List.mem_cons, List.not_mem_nil, or_false] at h8
  refine rdq_some hq (by omega) (by omega) hy hk ?_
  unfold opt1
  rw [if_neg (by omega), if_neg (by omega), if_neg (by omega), if_pos h, rdq_len hk, if_pos (by omega)]
theorem rdq_other {zs : List Int} {q k : Nat} {st : OSt} (hq : q < zs.length) (h0 : zs.getD q 0 ≠ 0) (h1 : zs.getD q 0 ≠ 1) (h2 : zs.getD q 0 ≠ 2) (h3 : zs.getD q 0 ≠ 3) (h4 : zs.getD q 0 ≠ 4) (h5 : zs.getD q 0 ≠ 5) (hy : zs.getD (q + 1) 0 = (k : Int) + 2) (hk : q + 2 + k ≤ zs.length) : rdO (zs.drop q) st = rdO (zs.drop (q + 2 + k)) st :=
  rdq_some hq h0 h1 hy hk (by unfold opt1; rw [if_neg h2, if_neg h3, if_neg h4, if_neg h5])
end Go.Proofs.YtcnfnimgpiaamaaDoor
