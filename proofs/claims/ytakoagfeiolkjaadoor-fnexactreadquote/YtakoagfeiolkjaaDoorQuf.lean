/-
Contracts of functions of this seat.
-/
import Derived.Test.YtakoagfeiolkjaaDoorRows
import Derived.WalkKit
import Derived.ProofKit
import Derived.OpenShut
import Derived.Test.YtakoagfeiolkjaaDoorQui
import Derived.Test.YtakoagfeiolkjaaDoorRqs
import Derived.Test.YtakoagfeiolkjaaDoorIh_short
import Derived.Test.YtakoagfeiolkjaaDoorIh_version
import Derived.Test.YtakoagfeiolkjaaDoorIh_low
import Derived.Test.YtakoagfeiolkjaaDoorIh_high
import Derived.Test.YtakoagfeiolkjaaDoorIh_long
namespace Go.Proofs.YtakoagfeiolkjaaDoor
open Go.ChangeShapes Go.WideShapes Go.ChangeAt Go.RowKit
set_option linter.unusedVariables false
set_option maxRecDepth 100000
theorem tnum_at' (zs : List Int) (p : Nat) (h : p < zs.length) : tnum ((zs.drop p).take 1) = zs.getD p 0 := by
  have e : (zs.drop p).take 1 = [zs.getD p 0] := by
    rw [List.drop_eq_getElem_cons h, List.take_succ_cons, List.take_zero, List.getD_eq_getElem?_getD, List.getElem?_eq_getElem h]
    rfl
  rw [e]
  simp [tnum]
set_option maxHeartbeats 2000000 in
/-- ReadQuote of the program. -/
theorem implReadQuote (zs : List Int) : ReadQuoteP 8 ErrT zs (rqI zs (zs.getD 9 0)) (rqI zs (tnum ((zs.drop 12).take 4))) (rqI zs (tnum ((zs.drop 16).take 4))) (rqI zs (tnum ((zs.drop 4).take 2))) (rqI zs (tnum ((zs.drop (rqS zs)).take 2))) (rqI zs (tnum ((zs.drop (rqS zs + 2)).take 2))) (rqI zs (tnum ((zs.drop (rqS zs + 4)).take 4))) (rqC zs) := by
  intro a n cap W hn ha hcap hm he
  have bad : ∀ q : Int, rqC zs = q → ¬ q = 0 → ∀ e w', e = Ending.returned (.tuple #[.agg #[.int .i64 0, .int .i64 0, .int .i64 0, .int .i64 0, .int .i64 0, .int .i64 0, .int .i64 0], .int .i64 q]) ∧ Below W.heap.size W w' → e = .returned (.tuple #[.agg #[.int .i64 (rqI zs (zs.getD 9 0)), .int .i64 (rqI zs (tnum ((zs.drop 12).take 4))), .int .i64 (rqI zs (tnum ((zs.drop 16).take 4))), .int .i64 (rqI zs (tnum ((zs.drop 4).take 2))), .int .i64 (rqI zs (tnum ((zs.drop (rqS zs)).take 2))), .int .i64 (rqI zs (tnum ((zs.drop (rqS zs + 2)).take 2))), .int .i64 (rqI zs (tnum ((zs.drop (rqS zs + 4)).take 4)))], .int .i64 (rqC zs)]) ∧ Below W.heap.size W w' := by
    rintro q hq h0 e w' ⟨rfl, hb⟩
    have e0 : ∀ x, rqI zs x = 0 := fun x => by unfold rqI; rw [if_neg (by rw [hq]; exact h0)]
    exact ⟨by rw [e0, e0, e0, e0, e0, e0, e0, hq], hb⟩
  have hne : W.heap.size + 2 ≠ W.heap.size + 1 := by omega
  by_cases h20 : n < 20
  · have hC : rqC zs = 2 := by
      have hr : rhC zs = 2 := by unfold rhC; rw [hn, if_pos h20]
      unfold rqC
      rw [hr, if_pos (by decide)]
    refine (implQuote_bad a n cap 2 W hm (by decide) he (fun V hc hf hb => ?_)).mono (bad 2 hC (by decide))
    refine (takeHead_short (W.heap.size + 1) (W.heap.size + 2) n cap a V hc hf hm h20 hne).mono ?_
    rintro e w' ⟨K, p, rfl, h1, h2, h3, h4⟩
    exact ⟨p, _, _, _, _, _, _, _, _, _, _, rfl, h1, h2, h3, h4⟩
  obtain ⟨b, off, ea, hbl, _⟩ := ha.2 0 (by omega)
  subst ea
  have hbg : b ≠ W.heap.size + 1 := by omega
  have hbF : b ≠ W.heap.size + 2 := by omega
  have y0e : zs.getD 0 0 = tnum ((zs.drop 0).take 1) := (tnum_at' zs 0 (by omega)).symm
  have hb0 := getD_bd ha.1 0
  by_cases hv : zs.getD 0 0 / 16 = 4
  · have hvb : (zs.getD 0 0 / 16 == 4) = true := beq_iff_eq.2 hv
    by_cases hs : (20 : Int) ≤ zs.getD 0 0 % 16 * 4
    · by_cases hs2 : zs.getD 0 0 % 16 * 4 ≤ (n : Int)
      · have hko : zs.getD 0 0 % 16 * 4 - 20 = (((zs.getD 0 0 % 16 * 4 - 20).toNat : Nat) : Int) := by omega
        generalize (zs.getD 0 0 % 16 * 4 - 20).toNat = ko at hko
        have hS : (ihl zs).toNat = 20 + ko := by unfold ihl; omega
        have hP : 20 + ko ≤ n := by omega
        have hr : rhC zs = if csum (zs.take (20 + ko)) ≠ 0 then 3 else 0 := by
          unfold rhC
          rw [hn, if_neg h20, if_neg (by simpa using hv), if_neg (by unfold ihl; omega), hS]
        have long := fun (E : Bool) (hE : (csum (zs.take (20 + ko)) == 0) = E) (ev : Value) (hev : (if E then Value.nilIface else wErr 3) = ev) (V : World) (hc : Cur V (W.heap.size + 1) (.slice (some ⟨b, off, none⟩) n cap) 0 .nilIface) (hf : FR V (W.heap.size + 2) 0 0 0 0 0 0 0 0 0 (.slice none 0 0) (.slice none 0 0)) (hb : Below W.heap.size W V) =>
          takeHead_long (W.heap.size + 1) (W.heap.size + 2) n cap b off zs V hc hf hn (ha.below hb (Nat.le_refl _)) hm hcap (by omega) hbg hbF hne _ y0e hb0.1 hb0.2 hvb hs hs2 _ rfl _ rfl _ rfl _ rfl _ rfl _ rfl _ rfl _ rfl ko hko E hE ev hev
        by_cases hcs : csum (zs.take (20 + ko)) = 0
        · have hE := long true (beq_iff_eq.2 hcs) .nilIface rfl
          have hr0 : rhC zs = 0 := by rw [hr, if_neg (by simpa using hcs)]
          have hi : ihl zs = ((20 + ko : Nat) : Int) := by unfold ihl; omega
          have hT : ∀ V, Cur V (W.heap.size + 1) (.slice (some ⟨b, off, none⟩) n cap) 0 .nilIface → FR V (W.heap.size + 2) 0 0 0 0 0 0 0 0 0 (.slice none 0 0) (.slice none 0 0) → Below W.heap.size W V → Calls Tryd.prog 24 #[.pointer (some ⟨W.heap.size + 2, 0, none⟩), .pointer (some ⟨W.heap.size + 1, 0, none⟩)] V fun e w' => ∃ (y0 y1 y2 y4 y5 : Int) (vo : Value), e = .returned (.tuple #[]) ∧ Cur w' (W.heap.size + 1) (.slice (some ⟨b, off, none⟩) n cap) (20 + ko) .nilIface ∧ FR w' (W.heap.size + 2) y0 y1 y2 (tnum ((zs.drop 4).take 2)) y4 y5 (tnum ((zs.drop 9).take 1)) (tnum ((zs.drop 12).take 4)) (tnum ((zs.drop 16).take 4)) vo (.slice none 0 0) ∧ Only [W.heap.size + 1, W.heap.size + 2] V w' := by
            intro V hc hf hb
            refine (hE V hc hf hb).mono ?_
            rintro e w' ⟨ao, co, rfl, h1, h2, _, h4⟩
            exact ⟨_, _, _, _, _, _, rfl, h1, h2, h4⟩
          by_cases g1 : n < 20 + ko + 2
          · exact (implQuote_s1 b off n cap zs _ _ _ _ W hm hn ha hcap (by omega) (20 + ko) hP he g1 hT).mono (bad 2 (by unfold rqC; rw [if_neg (by rw [hr0]; simp), if_pos (by omega)]) (by decide))
          by_cases g2 : n < 20 + ko + 2 + 2
          · exact (implQuote_s2 b off n cap zs _ _ _ _ W hm hn ha hcap (by omega) (20 + ko) hP he (by omega) g2 _ rfl hT).mono (bad 2 (by unfold rqC; rw [if_neg (by rw [hr0]; simp), if_pos (by omega)]) (by decide))
          by_cases g3 : n < 20 + ko + 4 + 4
          · exact (implQuote_s3 b off n cap zs _ _ _ _ W hm hn ha hcap (by omega) (20 + ko) hP he (by omega) g3 _ rfl _ rfl hT).mono (bad 2 (by unfold rqC; rw [if_neg (by rw [hr0]; simp), if_pos (by omega)]) (by decide))
          have hC : rqC zs = 0 := by unfold rqC; rw [if_neg (by rw [hr0]; simp), if_neg (by omega)]
          have e0 : ∀ x, rqI zs x = x := fun x => by unfold rqI; rw [if_pos hC]
          refine (implQuote_ok b off n cap zs _ _ _ _ W hm hn ha hcap (by omega) (20 + ko) hP (by omega) _ rfl _ rfl _ rfl hT).mono ?_
          rintro e w' ⟨rfl, hb⟩
          refine ⟨?_, hb⟩
          rw [e0, e0, e0, e0, e0, e0, e0, hC, show rqS zs = 20 + ko from hS, tnum_at' zs 9 (by omega)]
        · have hE := long false (by simpa using hcs) (wErr 3) rfl
          have hr3 : rhC zs = 3 := by rw [hr, if_pos hcs]
          refine (implQuote_bad (some ⟨b, off, none⟩) n cap 3 W hm (by decide) he (fun V hc hf hb => ?_)).mono (bad 3 (by unfold rqC; rw [hr3, if_pos (by decide)]) (by decide))
          refine (hE V hc hf hb).mono ?_
          rintro e w' ⟨ao, co, rfl, h1, h2, _, h4⟩
          exact ⟨_, _, _, _, _, _, _, _, _, _, _, rfl, h1, h2, h4, hP⟩
      · have hr : rhC zs = 5 := by unfold rhC; rw [hn, if_neg h20, if_neg (by simpa using hv), if_pos (by unfold ihl; omega)]
        refine (implQuote_bad (some ⟨b, off, none⟩) n cap 5 W hm (by decide) he (fun V hc hf hb => ?_)).mono (bad 5 (by unfold rqC; rw [hr, if_pos (by decide)]) (by decide))
        refine (takeHead_high (W.heap.size + 1) (W.heap.size + 2) n cap b off zs V hc hf hn (ha.below hb (Nat.le_refl _)) hm hcap (by omega) hbg hbF hne _ y0e hb0.1 hb0.2 hvb hs (decide_eq_false hs2)).mono ?_
        rintro e w' ⟨K, p, rfl, h1, h2, h3, h4⟩
        exact ⟨p, _, _, _, _, _, _, _, _, _, _, rfl, h1, h2, h3, h4⟩
    · have hr : rhC zs = 5 := by unfold rhC; rw [hn, if_neg h20, if_neg (by simpa using hv), if_pos (by unfold ihl; omega)]
      refine (implQuote_bad (some ⟨b, off, none⟩) n cap 5 W hm (by decide) he (fun V hc hf hb => ?_)).mono (bad 5 (by unfold rqC; rw [hr, if_pos (by decide)]) (by decide))
      refine (takeHead_low (W.heap.size + 1) (W.heap.size + 2) n cap b off zs V hc hf hn (ha.below hb (Nat.le_refl _)) hm hcap (by omega) hbg hbF hne _ y0e hb0.1 hb0.2 hvb (decide_eq_false hs)).mono ?_
      rintro e w' ⟨K, p, rfl, h1, h2, h3, h4⟩
      exact ⟨p, _, _, _, _, _, _, _, _, _, _, rfl, h1, h2, h3, h4⟩
  · have hr : rhC zs = 4 := by unfold rhC; rw [hn, if_neg h20, if_pos hv]
    refine (implQuote_bad (some ⟨b, off, none⟩) n cap 4 W hm (by decide) he (fun V hc hf hb => ?_)).mono (bad 4 (by unfold rqC; rw [hr, if_pos (by decide)]) (by decide))
    refine (takeHead_version (W.heap.size + 1) (W.heap.size + 2) n cap b off zs V hc hf hn (ha.below hb (Nat.le_refl _)) hm hcap (by omega) hbg hbF hne _ y0e hb0.1 hb0.2 (by simpa using hv)).mono ?_
    rintro e w' ⟨K, p, rfl, h1, h2, h3, h4⟩
    exact ⟨p, _, _, _, _, _, _, _, _, _, _, rfl, h1, h2, h3, h4⟩
end Go.Proofs.YtakoagfeiolkjaaDoor
