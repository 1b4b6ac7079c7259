/-
At every input the law FnExactDecodeIP of the landed program answers true, and its arguments read afterwards as before.
Condition: the package-level tables that the card lists are as the program lays them (the card ties them to the text, within the pruned copy).
-/
import Derived.Test.YtakoagfeiolkjaaDoorRows
import Derived.WalkKit
import Derived.ProofKit
import Derived.OpenShut
import Derived.Test.YtakoagfeiolkjaaDoorIp1
import Derived.Test.YtakoagfeiolkjaaDoorIp3
import Derived.Test.YtakoagfeiolkjaaDoorLde
import Derived.ShutString
import Derived.ChangeOld
import Derived.Below
import Derived.Test.YtakoagfeiolkjaaDoorCards
import Derived.Test.YtakoagfeiolkjaaDoorTie
import Derived.Lib.LaidTab
import Derived.Stop.LaidErr
import Derived.LaidMore
import Derived.SevenTiedAt
import Derived.LaidLaws
import Derived.LaidHandle
namespace Go.Proofs.YtakoagfeiolkjaaDoor
open Go.ChangeShapes Go.WideShapes Go.ChangeAt Go.RowKit
set_option linter.unusedVariables false
set_option maxRecDepth 100000
theorem tnum_one (zs : List Int) (p : Nat) (h : p < zs.length) : tnum ((zs.drop p).take 1) = zs.getD p 0 := by
  rw [List.drop_eq_getElem_cons h, List.take_succ_cons, List.take_zero, List.getD_eq_getElem?_getD, List.getElem?_eq_getElem h]
  unfold tnum
  simp
theorem df_bit (f : Int) (h0 : 0 ≤ f) (h1 : f ≤ 65535) : (bits .and .i64 f 16384 != 0) = decide (f / 16384 % 2 = 1) := by rw [and_16384 f h0 h1]; exact bit_ne _ _ (by decide)
theorem mf_bit (f : Int) (h0 : 0 ≤ f) (h1 : f ≤ 65535) : (bits .and .i64 f 8192 != 0) = decide (f / 8192 % 2 = 1) := by rw [and_8192 f h0 h1]; exact bit_ne _ _ (by decide)
theorem spare_bit (f : Int) (h0 : 0 ≤ f) (h1 : f ≤ 65535) : (bits .and .i64 f 32768 != 0) = decide (32768 ≤ f) := by
  rw [and_32768 f h0 h1]
  by_cases h : 32768 ≤ f
  · rw [decide_eq_true h, bne_iff_ne]; omega
  · rw [decide_eq_false h, show f / 32768 * 32768 = 0 by omega]; rfl
/-- DecodeIP of the program: what is refused. -/
theorem decBad (zs : List Int) (a : Option Addr) (n cap : Nat) (w : World) (c : Int) (hc : dpC zs = c) (h0 : c ≠ 0) (he : ErrT w) (hm : n ≤ 1048576)
    (hP : ∀ W, Cur W (w.heap.size + 1) (.slice a n cap) 0 .nilIface → Below w.heap.size w W → W.heap.size = w.heap.size + 2 → Calls Tryd.prog 36 #[.pointer (some ⟨w.heap.size + 1, 0, none⟩)] W fun e w' => ∃ (p : Nat) (y0 y1 y2 y3 y4 y5 y6 y7 y8 : Int) (ao : Option Addr) (lo co : Nat) (ap : Option Addr) (lp cp : Nat), e = .returned (.agg #[.int .i64 y0, .int .i64 y1, .int .i64 y2, .int .i64 y3, .int .i64 y4, .int .i64 y5, .int .i64 y6, .int .i64 y7, .int .i64 y8, .slice ao lo co, .slice ap lp cp]) ∧ Cur w' (w.heap.size + 1) (.slice a n cap) p (wErr c) ∧ Only [w.heap.size + 1] W w')
    (x0 x1 : Int) (x2 x3 : Bool) (x4 x5 x6 x7 x8 : Int) (L0 L1 : List Int) :
    Calls Tryd.prog 18 #[.slice a n cap] w fun e w' => ∃ v0 v1 : Value, e = .returned (.tuple #[.agg #[.int .i64 (dpI zs x0), .int .i64 (dpI zs x1), .bool (dpB zs x2), .bool (dpB zs x3), .int .i64 (dpI zs x4), .int .i64 (dpI zs x5), .int .i64 (dpI zs x6), .int .i64 (dpI zs x7), .int .i64 (dpI zs x8), v0, v1], .int .i64 (dpC zs)]) ∧ OwnB w' w.heap.size v0 (dpL zs L0) ∧ OwnB w' w.heap.size v1 (dpL zs L1) ∧ (∀ b, v0.ownBlock = some b → v1.ownBlock ≠ some b) ∧ Below w.heap.size w w' := by
  refine (implDecIP_bad a n cap c h0 w he hP).mono ?_
  rintro e w' ⟨rfl, hb⟩
  have hI : ∀ x, dpI zs x = 0 := fun x => by unfold dpI; rw [hc, if_neg h0]
  have hB : ∀ x, dpB zs x = false := fun x => by unfold dpB; rw [hc, if_neg h0]
  have hL : ∀ x, dpL zs x = [] := fun x => by unfold dpL; rw [hc, if_neg h0]
  refine ⟨.slice none 0 0, .slice none 0 0, by rw [hI, hI, hB, hB, hI, hI, hI, hI, hI, hc], ?_, ?_, ?_, hb⟩
  · rw [hL]; exact ⟨World.ownsRow_nil _ _ _ _, by simp⟩
  · rw [hL]; exact ⟨World.ownsRow_nil _ _ _ _, by simp⟩
  · intro b h; simp [Value.ownBlock] at h
theorem headBad (a : Option Addr) (n cap : Nat) (w : World) (c : Int) (hm : n ≤ 1048576)
    (hT : ∀ W F g, g < w.heap.size + 2 → w.heap.size < g → Cur W g (.slice a n cap) 0 .nilIface → FR W F 0 0 0 0 0 0 0 0 0 (.slice none 0 0) (.slice none 0 0) → F ≠ g → w.heap.size ≤ F → Below w.heap.size w W → Calls Tryd.prog 24 #[.pointer (some ⟨F, 0, none⟩), .pointer (some ⟨g, 0, none⟩)] W fun e w' => ∃ (p : Nat) (y0 y1 y2 y3 y4 y5 y6 y7 y8 : Int) (ao : Option Addr) (lo co : Nat), e = .returned (.tuple #[]) ∧ Cur w' g (.slice a n cap) p (wErr c) ∧ p ≤ n ∧ FR w' F y0 y1 y2 y3 y4 y5 y6 y7 y8 (.slice ao lo co) (.slice none 0 0) ∧ (0 ≤ y0 ∧ y0 ≤ 255) ∧ (0 ≤ y2 ∧ y2 ≤ 65535) ∧ (0 ≤ y4 ∧ y4 ≤ 65535) ∧ Only [g, F] W w') :
    ∀ W, Cur W (w.heap.size + 1) (.slice a n cap) 0 .nilIface → Below w.heap.size w W → W.heap.size = w.heap.size + 2 → Calls Tryd.prog 36 #[.pointer (some ⟨w.heap.size + 1, 0, none⟩)] W fun e w' => ∃ (p : Nat) (y0 y1 y2 y3 y4 y5 y6 y7 y8 : Int) (ao : Option Addr) (lo co : Nat) (ap : Option Addr) (lp cp : Nat), e = .returned (.agg #[.int .i64 y0, .int .i64 y1, .int .i64 y2, .int .i64 y3, .int .i64 y4, .int .i64 y5, .int .i64 y6, .int .i64 y7, .int .i64 y8, .slice ao lo co, .slice ap lp cp]) ∧ Cur w' (w.heap.size + 1) (.slice a n cap) p (wErr c) ∧ Only [w.heap.size + 1] W w' := by
  intro W hc hb hs
  refine (takePacket_err (w.heap.size + 1) n cap a c W hc hm (fun W' F hc' hf' hne hb' hF _ => hT W' F (w.heap.size + 1) (by omega) (by omega) hc' hf' hne (by omega) (hb.trans (hb'.mono hb.size)))).mono ?_
  rintro e w' ⟨p, y0, y1, y2, y3, y4, y5, y6, y7, y8, ao, lo, co, ap, rfl, h1, h2⟩
  exact ⟨p, y0, y1, y2, y3, y4, y5, y6, y7, y8, ao, lo, co, ap, 0, 0, rfl, h1, h2⟩
/-- DecodeIP of the program. -/
theorem implDecIP (zs : List Int) (hz : ∀ z ∈ zs, 0 ≤ z ∧ z ≤ 255) : DecPacketP 18 ErrT zs (dpI zs (zs.getD 1 0)) (dpI zs (tnum ((zs.drop 4).take 2))) (dpB zs (decide (dpF zs / 16384 % 2 = 1))) (dpB zs (decide (dpF zs / 8192 % 2 = 1))) (dpI zs (dpF zs % 8192 * 8)) (dpI zs (zs.getD 8 0)) (dpI zs (zs.getD 9 0)) (dpI zs (tnum ((zs.drop 12).take 4))) (dpI zs (tnum ((zs.drop 16).take 4))) (dpL zs ((zs.drop 20).take ((ihl zs).toNat - 20))) (dpL zs ((zs.drop (ihl zs).toNat).take ((dpW zs).toNat - (ihl zs).toNat))) (dpC zs) := by
  intro a n cap w hn ha hcap hm he
  by_cases h20 : n < 20
  · have hC : dpC zs = 2 := by have hR : rhC zs = 2 := by { unfold rhC; rw [if_pos (show zs.length < 20 by omega)] }; unfold dpC; rw [hR, if_pos (by decide)]
    refine decBad zs a n cap w 2 hC (by decide) he hm (headBad a n cap w 2 hm ?_) _ _ _ _ _ _ _ _ _ _ _
    intro W F g hg1 hg2 hc hf hne hF hb
    refine (takeHead_short g F n cap a W hc hf hm h20 hne).mono ?_
    rintro e w' ⟨K, p, rfl, h1, h2, h3, h4⟩
    exact ⟨p, _, _, _, _, _, _, _, _, _, _, _, _, rfl, h1, h4, h2, by omega, by omega, by omega, h3⟩
  · obtain ⟨b, off, rfl, hblt, _⟩ := ha.2 0 (by omega)
    have tb := fun (p k : Nat) (hk : p + k ≤ zs.length) => tnum_bd (zs.drop p) (fun z h => hz z (List.mem_of_mem_drop h)) k (by rw [List.length_drop]; omega)
    have b0 := tb 0 1 (by omega)
    have b2 := tb 2 2 (by omega)
    have b4 := tb 6 2 (by omega)
    have e0 : tnum ((zs.drop 0).take 1) = zs.getD 0 0 := tnum_one zs 0 (by omega)
    obtain ⟨y0, hy0⟩ : ∃ y, y = tnum ((zs.drop 0).take 1) := ⟨_, rfl⟩
    obtain ⟨y2, hy2⟩ : ∃ y, y = tnum ((zs.drop 2).take 2) := ⟨_, rfl⟩
    obtain ⟨y4, hy4⟩ : ∃ y, y = tnum ((zs.drop 6).take 2) := ⟨_, rfl⟩
    rw [← hy0] at b0 e0
    rw [← hy2] at b2
    rw [← hy4] at b4
    have hI : ihl zs = y0 % 16 * 4 := by unfold ihl; rw [← e0]
    have hW : dpW zs = y2 := hy2.symm
    have hFl : dpF zs = y4 := hy4.symm
    have n20 : ¬ zs.length < 20 := by omega
    by_cases hv : y0 / 16 = 4
    rotate_left
    · have hC : dpC zs = 4 := by have hR : rhC zs = 4 := by { unfold rhC; rw [if_neg n20, ← e0, if_pos hv] }; unfold dpC; rw [hR, if_pos (by decide)]
      refine decBad zs _ n cap w 4 hC (by decide) he hm (headBad _ n cap w 4 hm ?_) _ _ _ _ _ _ _ _ _ _ _
      intro W F g hg1 hg2 hc hf hne hF hb
      refine (takeHead_version g F n cap b off zs W hc hf hn (ha.below hb (Nat.le_refl _)) hm hcap (by omega) (by omega) (by omega) hne y0 hy0 b0.1 (by omega) (by simpa using hv)).mono ?_
      rintro e w' ⟨K, p, rfl, h1, h2, h3, h4⟩
      exact ⟨p, _, _, _, _, _, _, _, _, _, _, _, _, rfl, h1, h4, h2, by omega, by omega, by omega, h3⟩
    · have hvb : (y0 / 16 == 4) = true := by rw [hv]; rfl
      by_cases hs : 20 ≤ y0 % 16 * 4
      rotate_left
      · have hC : dpC zs = 5 := by have hR : rhC zs = 5 := by { unfold rhC; rw [if_neg n20, ← e0, if_neg (show ¬ y0 / 16 ≠ 4 by omega), hI, if_pos (show y0 % 16 * 4 < 20 ∨ (zs.length : Int) < y0 % 16 * 4 by omega)] }; unfold dpC; rw [hR, if_pos (by decide)]
        refine decBad zs _ n cap w 5 hC (by decide) he hm (headBad _ n cap w 5 hm ?_) _ _ _ _ _ _ _ _ _ _ _
        intro W F g hg1 hg2 hc hf hne hF hb
        refine (takeHead_low g F n cap b off zs W hc hf hn (ha.below hb (Nat.le_refl _)) hm hcap (by omega) (by omega) (by omega) hne y0 hy0 b0.1 (by omega) hvb (decide_eq_false hs)).mono ?_
        rintro e w' ⟨K, p, rfl, h1, h2, h3, h4⟩
        exact ⟨p, _, _, _, _, _, _, _, _, _, _, _, _, rfl, h1, h4, h2, by omega, by omega, by omega, h3⟩
      · by_cases hs2 : y0 % 16 * 4 ≤ (n : Int)
        rotate_left
        · have hC : dpC zs = 5 := by have hR : rhC zs = 5 := by { unfold rhC; rw [if_neg n20, ← e0, if_neg (show ¬ y0 / 16 ≠ 4 by omega), hI, if_pos (show y0 % 16 * 4 < 20 ∨ (zs.length : Int) < y0 % 16 * 4 by omega)] }; unfold dpC; rw [hR, if_pos (by decide)]
          refine decBad zs _ n cap w 5 hC (by decide) he hm (headBad _ n cap w 5 hm ?_) _ _ _ _ _ _ _ _ _ _ _
          intro W F g hg1 hg2 hc hf hne hF hb
          refine (takeHead_high g F n cap b off zs W hc hf hn (ha.below hb (Nat.le_refl _)) hm hcap (by omega) (by omega) (by omega) hne y0 hy0 b0.1 (by omega) hvb hs (decide_eq_false hs2)).mono ?_
          rintro e w' ⟨K, p, rfl, h1, h2, h3, h4⟩
          exact ⟨p, _, _, _, _, _, _, _, _, _, _, _, _, rfl, h1, h4, h2, by omega, by omega, by omega, h3⟩
        · obtain ⟨ko, hko⟩ : ∃ ko : Nat, y0 % 16 * 4 - 20 = (ko : Int) := ⟨(y0 % 16 * 4 - 20).toNat, by omega⟩
          have hIn : (ihl zs).toNat = 20 + ko := by rw [hI]; omega
          have long : ∀ (E : Bool), (csum (zs.take (20 + ko)) == 0) = E → ∀ W F g, g < w.heap.size + 2 → w.heap.size < g → Cur W g (.slice (some ⟨b, off, none⟩) n cap) 0 .nilIface → FR W F 0 0 0 0 0 0 0 0 0 (.slice none 0 0) (.slice none 0 0) → F ≠ g → w.heap.size ≤ F → Below w.heap.size w W → _ := fun E hE W F g hg1 hg2 hc hf hne hF hb =>
            takeHead_long g F n cap b off zs W hc hf hn (ha.below hb (Nat.le_refl _)) hm hcap (by omega) (by omega) (by omega) hne y0 hy0 b0.1 (by omega) hvb hs hs2 _ rfl y2 hy2 _ rfl y4 hy4 _ rfl _ rfl _ rfl _ rfl ko hko E hE _ rfl
          by_cases hk : csum (zs.take (20 + ko)) = 0
          rotate_left
          · have hC : dpC zs = 3 := by have hR : rhC zs = 3 := by { unfold rhC; rw [if_neg n20, ← e0, if_neg (show ¬ y0 / 16 ≠ 4 by omega), hIn, if_pos hk, hI, if_neg (show ¬ (y0 % 16 * 4 < 20 ∨ (zs.length : Int) < y0 % 16 * 4) by omega)] }; unfold dpC; rw [hR, if_pos (by decide)]
            refine decBad zs _ n cap w 3 hC (by decide) he hm (headBad _ n cap w 3 hm ?_) _ _ _ _ _ _ _ _ _ _ _
            intro W F g hg1 hg2 hc hf hne hF hb
            refine (long false (by simpa using hk) W F g hg1 hg2 hc hf hne hF hb).mono ?_
            rintro e w' ⟨ao, co, rfl, h1, h2, h3, h4⟩
            exact ⟨_, _, _, _, _, _, _, _, _, _, _, _, _, rfl, h1, by omega, h2, by omega, by omega, by omega, h4⟩
          · have hR : rhC zs = 0 := by unfold rhC; rw [if_neg n20, ← e0, if_neg (show ¬ y0 / 16 ≠ 4 by omega), hIn, if_neg (show ¬ csum (zs.take (20 + ko)) ≠ 0 by rw [hk]; decide), hI, if_neg (show ¬ (y0 % 16 * 4 < 20 ∨ (zs.length : Int) < y0 % 16 * 4) by omega)]
            have hTl : ∀ W, W.heap.size = w.heap.size + 2 → Below w.heap.size w W → ∀ W' F, Cur W' (w.heap.size + 1) (.slice (some ⟨b, off, none⟩) n cap) 0 .nilIface → FR W' F 0 0 0 0 0 0 0 0 0 (.slice none 0 0) (.slice none 0 0) → F ≠ w.heap.size + 1 → Below W.heap.size W W' → W.heap.size ≤ F → W'.heap.size = W.heap.size + 2 → Calls Tryd.prog 24 #[.pointer (some ⟨F, 0, none⟩), .pointer (some ⟨w.heap.size + 1, 0, none⟩)] W' fun e w' => ∃ (ao : Option Addr) (co : Nat), e = .returned (.tuple #[]) ∧ Cur w' (w.heap.size + 1) (.slice (some ⟨b, off, none⟩) n cap) (20 + ko) .nilIface ∧ FR w' F y0 (tnum ((zs.drop 1).take 1)) y2 (tnum ((zs.drop 4).take 2)) y4 (tnum ((zs.drop 8).take 1)) (tnum ((zs.drop 9).take 1)) (tnum ((zs.drop 12).take 4)) (tnum ((zs.drop 16).take 4)) (.slice ao ko co) (.slice none 0 0) ∧ OwnB w' (W.heap.size + 2) (.slice ao ko co) ((zs.drop 20).take ko) ∧ Only [w.heap.size + 1, F] W' w' := by
              intro W hWs hWb W' F hc hf hne hb hF hs'
              have h := long true (by rw [hk]; rfl) W' F (w.heap.size + 1) (by omega) (by omega) hc hf hne (by omega) (hWb.trans (hb.mono hWb.size))
              rw [hs'] at h
              exact h
            by_cases hw1 : y0 % 16 * 4 ≤ y2
            rotate_left
            · have hC : dpC zs = 5 := by unfold dpC; rw [hR, if_neg (by decide), hI, hW, if_pos (by omega)]
              refine decBad zs _ n cap w 5 hC (by decide) he hm ?_ _ _ _ _ _ _ _ _ _ _ _
              intro W hc hb hsz
              refine (takePacket_low (w.heap.size + 1) n cap b off W hc hm y0 _ y2 _ y4 _ _ _ _ b0.1 (by omega) b2.1 (by omega) b4.1 (by omega) ko _ (by omega) (decide_eq_false hw1) (hTl W hsz hb)).mono ?_
              rintro e w' ⟨p, y0, y1, y2, y3, y4, y5, y6, y7, y8, ao, lo, co, ap, rfl, h1, h2⟩
              exact ⟨p, y0, y1, y2, y3, y4, y5, y6, y7, y8, ao, lo, co, ap, 0, 0, rfl, h1, h2⟩
            · by_cases hw2 : y2 ≤ (n : Int)
              rotate_left
              · have hC : dpC zs = 5 := by unfold dpC; rw [hR, if_neg (by decide), hI, hW, if_pos (by omega)]
                refine decBad zs _ n cap w 5 hC (by decide) he hm ?_ _ _ _ _ _ _ _ _ _ _ _
                intro W hc hb hsz
                refine (takePacket_high (w.heap.size + 1) n cap b off W hc hm y0 _ y2 _ y4 _ _ _ _ b0.1 (by omega) b2.1 (by omega) b4.1 (by omega) ko _ (by omega) hw1 (decide_eq_false hw2) (hTl W hsz hb)).mono ?_
                rintro e w' ⟨p, y0, y1, y2, y3, y4, y5, y6, y7, y8, ao, lo, co, ap, rfl, h1, h2⟩
                exact ⟨p, y0, y1, y2, y3, y4, y5, y6, y7, y8, ao, lo, co, ap, 0, 0, rfl, h1, h2⟩
              · obtain ⟨kp, hkp⟩ : ∃ kp : Nat, y2 - y0 % 16 * 4 = (kp : Int) := ⟨(y2 - y0 % 16 * 4).toNat, by omega⟩
                have hsp := spare_bit y4 b4.1 (by omega)
                have tp := fun (T : Bool) hT W (hc : Cur W (w.heap.size + 1) (.slice (some ⟨b, off, none⟩) n cap) 0 .nilIface) (hb : Below w.heap.size w W) (hsz : W.heap.size = w.heap.size + 2) =>
                  takePacket_long (w.heap.size + 1) n cap b off zs W hc hm y0 _ y2 _ y4 _ _ _ _ b0.1 (by omega) b2.1 (by omega) b4.1 (by omega) ko _ (by omega) hn (ha.below hb (Nat.le_refl _)) hcap (by omega) hw1 hw2 (by omega) kp hkp T hT _ rfl (hTl W hsz hb)
                by_cases hf : 32768 ≤ y4 ∨ 65535 < y4 % 8192 * 8 + (y2 - y0 % 16 * 4)
                · have hC : dpC zs = 1 := by unfold dpC; rw [hR, if_neg (by decide), hI, hW, hFl, if_neg (by omega), if_pos hf]
                  refine decBad zs _ n cap w 1 hC (by decide) he hm ?_ _ _ _ _ _ _ _ _ _ _ _
                  intro W hc hb hsz
                  refine (tp false (by rw [hsp]; rcases hf with h | h; rw [decide_eq_true h]; rfl; rw [decide_eq_false (show ¬ y4 % 8192 * 8 + (kp : Int) ≤ 65535 by omega), Bool.and_false]) W hc hb hsz).mono ?_
                  rintro e w' ⟨p, ao, ap, co, cp, rfl, h1, h2, h3, h4, h5⟩
                  exact ⟨p, _, _, _, _, _, _, _, _, _, _, _, _, _, _, _, rfl, h1, h5⟩
                · have hC : dpC zs = 0 := by unfold dpC; rw [hR, if_neg (by decide), hI, hW, hFl, if_neg (by omega), if_neg hf]
                  have hWn : (dpW zs).toNat - (ihl zs).toNat = kp := by rw [hI, hW]; omega
                  have iI : ∀ x, dpI zs x = x := fun x => by unfold dpI; rw [hC, if_pos rfl]
                  have iB : ∀ x, dpB zs x = x := fun x => by unfold dpB; rw [hC, if_pos rfl]
                  have iL : ∀ x, dpL zs x = x := fun x => by unfold dpL; rw [hC, if_pos rfl]
                  simp only [iI, iB, iL]
                  rw [hC, hWn, hIn, hFl, show 20 + ko - 20 = ko by omega, ← tnum_one zs 1 (by omega), ← tnum_one zs 8 (by omega), ← tnum_one zs 9 (by omega)]
                  exact implDecIP_good _ n cap w y0 _ y2 _ y4 _ _ _ _ ko kp _ _ _ _ (df_bit y4 b4.1 (by omega)) (mf_bit y4 b4.1 (by omega)) (fun W hc hb hsz => tp true (by rw [hsp, decide_eq_false (show ¬ 32768 ≤ y4 by omega), decide_eq_true (show y4 % 8192 * 8 + (kp : Int) ≤ 65535 by omega)]; rfl) W hc hb hsz)

/-- What the walk is told of a slice of integers that came in: nil, or a row of 'cap' cells, the first 'len' of them its elements. -/
def IsRow (k : IntKind) (w : World) (a : Option Addr) (len cap : Nat) (zs : List Int) : Prop :=
  (a = none ∧ len = 0 ∧ cap = 0 ∧ zs = []) ∨
  ∃ x, a = some x ∧ len ≤ cap ∧ cap ≤ maxLen ∧ zs.length = cap ∧ (∀ i, i < zs.length → w.cell? (x.add i) = some (.int k (zs.getD i 0))) ∧ ∀ n ∈ zs, (Lit.int k n).wf = true
theorem cell_lt {w : World} {b o : Nat} {v : Value} (h : w.cell? ⟨b, o, none⟩ = some v) : b < w.heap.size := by
  by_cases hb : b < w.heap.size
  · exact hb
  · exfalso
    unfold World.cell? at h
    simp [Array.getElem?_eq_none (Nat.le_of_not_lt hb)] at h
theorem IsRow.arr {w : World} {a : Option Addr} {len cap : Nat} {zs : List Int} (h : IsRow .u8 w a len cap zs) : ∃ ys : List Int, ys.length = len ∧ Arr w a ys := by
  rcases h with ⟨rfl, rfl, rfl, rfl⟩ | ⟨x, rfl, hl, hm, hz, hcell, hwz⟩
  · exact ⟨[], rfl, by simp, fun j hj => by simp at hj⟩
  · refine ⟨zs.take len, by simp; omega, ?_, ?_⟩
    · intro z hz'
      have := hwz z (List.mem_of_mem_take hz')
      simpa [Lit.wf, IntKind.min, IntKind.max, IntKind.signed, IntKind.bits] using this
    · intro j hj
      have hj' : j < len := by simp at hj; omega
      obtain ⟨b, off, rfl, hc⟩ := ints_at hcell (by omega)
      have h1 := hc j (by omega)
      refine ⟨b, off, rfl, cell_lt h1, ?_⟩
      rw [h1, List.getD_eq_getElem?_getD, List.getD_eq_getElem?_getD, List.getElem?_take, if_pos hj']

theorem dpL_len1' (zs : List Int) (hz : ∀ z ∈ zs, 0 ≤ z ∧ z ≤ 255) : (dpL zs ((zs.drop (ihl zs).toNat).take ((dpW zs).toNat - (ihl zs).toNat))).length ≤ 1048576 := by
  by_cases hl : zs.length ≤ 1048576
  · exact dpL_len1 zs hz hl
  · have hW := tnum_bd (zs.drop 2) (fun z h => hz z (List.mem_of_mem_drop h)) 2 (by rw [List.length_drop]; omega)
    have e : dpW zs = tnum ((zs.drop 2).take 2) := rfl
    rw [← e] at hW
    unfold dpL
    split
    · rw [List.length_take]; omega
    · simp
theorem walkDecodeIP1 (Pre : World → Prop) (hpre : ∀ (w w' : World), Pre w → Below w.heap.size w w' → Pre w') (hI : ∀ zs : List Int, (∀ z ∈ zs, 0 ≤ z ∧ z ≤ 255) → DecPacketP 18 Pre zs (dpI zs (zs.getD 1 0)) (dpI zs (tnum ((zs.drop 4).take 2))) (dpB zs (decide (dpF zs / 16384 % 2 = 1))) (dpB zs (decide (dpF zs / 8192 % 2 = 1))) (dpI zs (dpF zs % 8192 * 8)) (dpI zs (zs.getD 8 0)) (dpI zs (zs.getD 9 0)) (dpI zs (tnum ((zs.drop 12).take 4))) (dpI zs (tnum ((zs.drop 16).take 4))) (dpL zs ((zs.drop 20).take ((ihl zs).toNat - 20))) (dpL zs ((zs.drop (ihl zs).toNat).take ((dpW zs).toNat - (ihl zs).toNat))) (dpC zs)) (a : Option Addr) (n cap : Nat) (z0 : List Int) (w : World) (w0 : IsRow .u8 w a n cap z0) (hp : Pre w) :
    Calls Tryd.prog 5 #[.slice a n cap] w fun e w' => e = .returned (.bool true) ∧ Below w.heap.size w w' := by
  obtain ⟨ys, hn, ha⟩ := w0.arr
  exact walkDecodeIP0 Pre hpre a n cap ys _ _ _ _ _ _ _ _ _ _ _ _ w hn ha (specDecIP ys _) (hI ys ha.1) (dpL_len0 ys ha.1) (dpL_len1' ys ha.1) hp
theorem walkDecodeIP (a : Option Addr) (n cap : Nat) (z0 : List Int) (w : World) (w0 : IsRow .u8 w a n cap z0) (he : ErrT w) :
    Calls Tryd.prog 5 #[.slice a n cap] w fun e w' => e = .returned (.bool true) ∧ Below w.heap.size w w' :=
  walkDecodeIP1 ErrT (fun _ _ h hb => h.below hb (Nat.le_refl _)) implDecIP a n cap z0 w w0 he

theorem own : ownKnob Tryd.prog.godebug = none := by kernel_rfl
theorem laidOut : laidOutB Tryd.prog = true := by kernel_rfl
theorem errG : Tryd.prog.globalNamed "errors.errorType" = some 0 := by kernel_rfl
theorem rtT : (Tryd.prog.cutTypes.find? (·.1 == "internal/reflectlite.rtype")).map (·.2) = some 97 := by kernel_rfl
theorem oneErr : ((List.range 138).filter fun t => Tryd.prog.rowNamed t [101, 114, 114, 111, 114]) = [49] := by kernel_rfl
theorem typesN : Tryd.prog.types.size = 138 := by kernel_rfl
/-- What the row's list gives: the variable holds the handle of the type 'error'. -/
theorem errOf {W : World} (h : laidMetH Tryd.prog Rows.fnExactDecodeIPRow.laid W) : ErrT W := by
  have h' : laidMet Tryd.prog [] W ∧ handlesMet Tryd.prog Rows.fnExactDecodeIPRow.laid W := h
  obtain ⟨name, u, ty, e1, e2, e3, e4, e5⟩ := h'.2 _ (List.mem_singleton.2 rfl)
  have en : name = [101, 114, 114, 111, 114] := (Option.some.inj e1).symm
  subst en
  obtain rfl := Option.some.inj (rtT.symm.trans e2)
  have hm : ty ∈ (List.range 138).filter fun t => Tryd.prog.rowNamed t [101, 114, 114, 111, 114] := List.mem_filter.2 ⟨List.mem_range.2 (by rw [← typesN]; exact e3), e4⟩
  rw [oneErr] at hm
  obtain rfl := List.mem_singleton.1 hm
  have hh : typeHandle Tryd.prog 49 = .pointer (some ⟨1, 49, none⟩) := by kernel_rfl
  rw [hh] at e5
  have hc : W.cell? ⟨0, 0, none⟩ = some (.iface 97 (.agg #[.pointer (some ⟨1, 49, none⟩)])) := by simpa using World.var?_cell errG e5 0
  exact ⟨World.block_lt_of_cell? W _ hc, hc⟩
theorem door_met (os : Os) (args : Array Value) : laidMetH Tryd.prog Rows.fnExactDecodeIPRow.laid ((World.doorLaid Tryd.prog 400 os).forCall (fun _ _ => 0) ⟨#[], args, []⟩).memory :=
  laidMetH_of_parts3 (fuel := 8) (laidMet_of_run' 8 (by kernel_rfl) (by kernel_rfl)) (by kernel_rfl) (by kernel_rfl)
set_option maxRecDepth 100000 in
theorem fnExactDecodeIP_lifted (os : Os) (started : os.Started) (H : Type) (enc : TypeId × Value → H) :
    ReturnsInHanded {} Tryd.checked os 5 .any (fun w args => (Rows.fnExactDecodeIPSpec.pre enc Tryd.prog Tryd.f5 [] false w args ∧ laidMetH Tryd.prog Rows.fnExactDecodeIPRow.laid w) ∧ sizedMet enc Tryd.prog Tryd.f5 (OpenSpec.ofChange Rows.fnExactDecodeIPSpec) false w args) (Rows.fnExactDecodeIPSpec.post enc Tryd.prog Tryd.f5 false true false false) := by
  refine returnsInHanded_of_change_and (C := Tryd.checked) (X := fun w _ => laidMetH Tryd.prog Rows.fnExactDecodeIPRow.laid w) (fun _ _ _ hh h => h.of_heap hh) own started (by kernel_rfl) Tryd.func5
    (ChangeSpec.witness_shaped (enc := enc) (C := Tryd.checked) (os := os) (X := fun w _ => laidMetH Tryd.prog Rows.fnExactDecodeIPRow.laid w) false (World.doorLaid Tryd.prog 400 os) #[.slice none 0 0] 8 rfl (World.shaped_of_RefB (by kernel_rfl) (by kernel_rfl)) (by kernel_rfl) (by kernel_rfl) (by kernel_rfl) (door_met os _)) ?_
  intro W base args ds gs before hval0 hW _ _ hL _
  have hval : ∀ (j : Nat) t v, Tryd.f5.params[j]? = some t → args[j]? = some v → Value.okWide Tryd.prog W .any base t v := hval0
  have hW' := hW
  obtain ⟨p, q, hA0, hV, rfl, hfz, hnd⟩ := hW
  have hA : DataW.TrodAll enc Tryd.prog W 0 (fun _ => true) true Tryd.f5.params.toList args.toList ds p := hA0
  rw [Tryd.params5] at hA hval
  obtain ⟨v0, vs0, d0, ds0, p0, q0, hargs, rfl, rfl, h0, r0⟩ := trodAll_cons hA
  obtain ⟨rfl, rfl, rfl⟩ := trodAll_nil r0
  obtain rfl : args = #[v0] := by cases args; simp_all
  obtain ⟨rfl, rfl⟩ := trodVars_none hV
  obtain ⟨a0, len0, cap0, rfl⟩ := okWide_slice Tryd.underlying22 (hval 0 22 v0 rfl rfl)
  have k0 := h0
  have lt0 : ∀ x ∈ p0, x.block < W.heap.size := by obtain ⟨m, hm⟩ := k0; exact DataW.trod_lt m _ _ _ hm
  obtain ⟨z0, w0⟩ : ∃ zs, IsRow .u8 W a0 len0 cap0 zs := by
    obtain ⟨fuel, hf⟩ := h0
    rcases open_ints Tryd.underlying22 Tryd.underlying5 (by kernel_rfl) hf with ⟨hcs, _⟩ | ⟨x, l, c, zs, hcs, _, hl, hm, hz, _, hcell, hwz⟩
    · simp [Value.cells] at hcs
      obtain ⟨rfl, rfl, rfl⟩ := hcs
      exact ⟨[], .inl ⟨rfl, rfl, rfl, rfl⟩⟩
    · simp [Value.cells] at hcs
      obtain ⟨rfl, rfl, rfl⟩ := hcs
      exact ⟨zs, .inr ⟨_, rfl, hl, hm, by simpa using hz, hcell, hwz⟩⟩
  clear hA0 hval0
  refine (walkDecodeIP a0 len0 cap0 z0 W w0 (errOf hL)).mono fun e W' ⟨he, bel⟩ => ?_
  subst he
  exact ⟨_, rfl, _, _, _, [], _, [], hW', trodAll_mk1 (shut_bool Tryd.underlying4 _), (trodAll_cons_mk (Below.trod laidOut (by kernel_rfl) (of_decide_eq_true (by kernel_rfl)) k0 bel lt0) trodAll_mk0), rfl, bel.frame _, fun h => by cases h⟩
theorem fnExactDecodeIP_said : Rows.FnExactDecodeIPSaid :=
  OpenClaim.holds_of_wide 5 Tryd.f5 rfl rfl rfl rfl rfl rfl rfl ⟨rfl, rfl, rfl, rfl, rfl⟩ rfl rfl rfl rfl rfl (by kernel_rfl) Tryd.func5 (by kernel_rfl)
    (of_decide_eq_true (by kernel_rfl)) (by unfold Func.isWrapper; first | (rw [if_pos (by decide +kernel)]; kernel_rfl) | (rw [if_neg (by decide +kernel)]; exact ⟨rfl, rfl⟩))
    (fun os started H enc _ => fnExactDecodeIP_lifted os started H enc)
theorem fnExactDecodeIP_plain (f : FuncId) (fn : Func) (hf : Tryd.pinned.checked.prog.funcNamed "loop.example/g00003/laws.FnExactDecodeIP" = some f) (hfn : Tryd.pinned.checked.prog.funcs[f]? = some fn) :
    true = Tryd.pinned.checked.prog.looks [] ∧ ∀ (j : Nat) t, fn.params[j]? = some t → Tryd.pinned.checked.prog.wantsStandIn t = false := by
  obtain rfl : f = 5 := Option.some.inj ((show Tryd.prog.funcNamed "loop.example/g00003/laws.FnExactDecodeIP" = some 5 by kernel_rfl).symm.trans hf) |>.symm
  obtain rfl : fn = Tryd.f5 := (Option.some.inj (Tryd.func5.symm.trans hfn)).symm
  refine ⟨by kernel_rfl, fun j t ht => ?_⟩
  rw [Tryd.params5] at ht
  have hm : t ∈ [22] := by simpa using Array.mem_of_getElem? ht
  have hall : ([22].all fun u => !Tryd.prog.wantsStandIn u) = true := by kernel_rfl
  exact (show Tryd.prog.wantsStandIn t = false by simpa using List.all_eq_true.1 hall t hm)
theorem fnExactDecodeIP_holds : Rows.FnExactDecodeIPCardSaid :=
  Claim7.holds_tied_plain_at .later [] _ _ _ _ fnExactDecodeIP_said (fun _ h => by cases h) (by kernel_rfl) (fun _ h => by cases h) fnExactDecodeIP_row_tie rfl ⟨rfl, rfl⟩ (by kernel_rfl) rfl fnExactDecodeIP_plain (by kernel_rfl)
end Go.Proofs.YtakoagfeiolkjaaDoor
