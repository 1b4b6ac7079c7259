/-
Contracts of functions of this seat.
-/
import Derived.Test.YtcnfnimgpiaamaaDoorRows
import Derived.WalkKit
import Derived.ProofKit
import Derived.OpenShut
import Derived.Test.YtcnfnimgpiaamaaDoorTki
import Derived.Test.YtcnfnimgpiaamaaDoorSd4
namespace Go.Proofs.YtcnfnimgpiaamaaDoor
open Go.ChangeShapes Go.WideShapes Go.ChangeAt Go.RowKit
set_option linter.unusedVariables false
set_option maxRecDepth 100000
def slN (v : Value) : Nat := match v with | .slice _ n _ => n | _ => 0
/-- The program's firstStretches under way. -/
def FsS (w W : World) (b off n cap : Nat) (zs : List Int) (v : Value) (k : Nat) : Prop := Cur W w.heap.size (.slice (some ⟨b, off, none⟩) n cap) (8 * k) .nilIface ∧ Below w.heap.size w W ∧ W.ownsRow (w.heap.size + 1) 53 2 v k (ival (skL zs k))
set_option maxHeartbeats 4000000 in
theorem firstS_walk (b off n cap q : Nat) (zs : List Int) (w : World) (hn : zs.length = n) (hq : n = 8 * q) (q1 : 1 ≤ q) (q4 : q ≤ 4) (hcap : n ≤ cap) (ha : Arr w (some ⟨b, off, none⟩) zs) :
    Calls Tryd.prog 90 #[.slice (some ⟨b, off, none⟩) n cap] w fun e w' => ∃ a' c', e = .returned (.slice a' (min 3 q) c') ∧ w'.ownsRow (w.heap.size + 1) 53 2 (.slice a' (min 3 q) c') (min 3 q) (ival (skL zs (min 3 q))) ∧ Below w.heap.size w w' := by
  obtain ⟨i, hi, hz0, hz1, hz2⟩ := info_parts Tryd.infoStretch
  obtain ⟨b', off', ee, hbw, _⟩ := ha.2 0 (by omega)
  cases ee
  have HN := hide hn
  have HA := hide ha
  have HQ := hide hq
  have hS0 : FsS w (w.alloc (.cells #[.slice (some ⟨b, off, none⟩) n cap, .int .i64 0, .nilIface] 69)) b off n cap zs (.slice none 0 0) 0 := ⟨heap_alloc_new _ _, (Below.refl _ _).alloc (Nat.le_refl _) _, rfl, .inl ⟨rfl, rfl⟩⟩
  have HS0 := hide hS0
  have n32 : n ≤ 32 := by omega
  have n8 : 8 ≤ n := by omega
  clear hn ha hq hS0
  go_enter Tryd.func90, Tryd.ntmps90
  go_wp2_with fail
  generalize w.alloc (.cells #[.slice (some ⟨b, off, none⟩) n cap, .int .i64 0, .nilIface] 69) = W0 at *
  go_loopw [4] (fun t w2 => ∃ (k : Nat) (a : Option Addr) (c : Nat), t = .slice a k c ∧ k ≤ min 3 q ∧ Hid (FsS w w2 b off n cap zs (.slice a k c) k)) (fun t _ => 4 - slN t)
  case atStart => exact ⟨0, none, 0, rfl, by omega, HS0⟩
  case round =>
    obtain ⟨k, a, c, rfl, hk, HS⟩ := hrel
    clear HS0
    rename World => W1
    have CL := hide (left_walk w.heap.size (8 * k) n cap (some ⟨b, off, none⟩) .nilIface W1 HS.out.1 (by omega) (by have := HQ.out; omega))
    by_cases hkm : k < min 3 q
    · have h8 : 8 * k + 8 ≤ n := by have := HQ.out; omega
      go_wp2_with fail
      refine CL.out.mono ?_
      rintro e w2 ⟨rfl, d, rfl⟩
      have hS2 : FsS w (W1.drewN d) b off n cap zs (.slice a k c) k := ⟨HS.out.1, below_drewN HS.out.2.1 d, HS.out.2.2⟩
      have HS2 := hide hS2
      clear HS hS2 CL
      generalize W1.drewN d = W2 at *
      go_wp2_with fail
      refine (take_ok w.heap.size (8 * k) n cap b off 4 zs W2 HS2.out.1 (by omega) (by omega) (by omega) hcap HN.out (HA.out.below HS2.out.2.1 (Nat.le_refl _)) (by omega) (by omega)).mono ?_
      rintro e w3 ⟨rfl, hc3, hg3⟩
      have hne : ∀ g', (Value.slice a k c).ownBlock = some g' → g' ≠ w.heap.size := fun g' e => by have := (HS2.out.2.2.lt g' e).1; omega
      have hb3 : Below w.heap.size w w3 := HS2.out.2.1.grown hg3 HS2.out.2.1.size (fun k hk => by cases hk; omega)
      have hr3 := HS2.out.2.2.kept hg3 (.inr (fun e => hne _ e rfl))
      have HC3 := hide hc3; have HB3 := hide hb3; have HR3 := hide hr3
      clear hc3 hb3 hr3 hg3 HS2
      go_wp2_with fail
      refine (take_ok w.heap.size (8 * k + 4) n cap b off 4 zs w3 HC3.out (by omega) (by omega) (by omega) hcap HN.out (HA.out.below HB3.out (Nat.le_refl _)) (by omega) (by omega)).mono ?_
      rintro e w5 ⟨rfl, hc5, hg5⟩
      have hb5 : Below w.heap.size w w5 := HB3.out.grown hg5 HB3.out.size (fun k hk => by cases hk; omega)
      have hr5 := HR3.out.kept hg5 (.inr (fun e => hne _ e rfl))
      have HC5 := hide hc5; have HB5 := hide hb5; have HR5 := hide hr5
      have HT : Hid (skL zs (k + 1) = skL zs k ++ [tnum ((zs.drop (8 * k)).take 4), tnum ((zs.drop (8 * k + 4)).take 4)]) := hide (by rw [skL_succ, show 4 * (2 * k) = 8 * k by omega, show 4 * (2 * k + 1) = 8 * k + 4 by omega])
      clear hc5 hb5 hr5 hg5 HC3 HB3 HR3
      generalize tnum ((zs.drop (8 * k)).take 4) = f at *
      generalize tnum ((zs.drop (8 * k + 4)).take 4) = t at *
      have hlt5 := HC5.out.lt
      go_wp2_with (first | (at_builtin; refine wpList_append_own _ rfl _ _ 29 rfl (w.heap.size + 1) 53 i _ 2 16 Tryd.underlying29 hi hz0 hz1 hz2 rfl (by decide) (.slice a k c) k (ival (skL zs k)) rfl (HR5.out.alloc _) ⟨w5.heap.size, 0, none⟩ 1 1 (ival [f, t]) rfl rfl (news_two w5 f t _) (ival_one _) (by unfold maxLen; omega) (by omega) (by rw [World.size_alloc]; omega) ?_))
      intro v' w7 hown' hgrow hnil
      have HC6 := hide ((HC5.out.kept (World.grownBy_alloc w5 (.cells #[.int .i64 f, .int .i64 t] 53) none) (by simp)).kept hgrow (fun e => hne _ e.symm rfl))
      have HB6 := hide ((HB5.out.alloc HB5.out.size (.cells #[.int .i64 f, .int .i64 t] 53)).grown hgrow (by rw [World.size_alloc]; have := HB5.out.size; omega) (fun g' e => by have := (HR5.out.lt g' e).1; omega))
      have hown2 := hown'
      rcases hown'.2 with ⟨_, h0⟩ | ⟨g', cap', cur', rfl, _⟩
      · omega
      have HO6 := hide hown2
      clear hown' hown2 hgrow hnil HC5 HB5 HR5
      go_wp2_with fail
      exact ⟨⟨k + 1, some ⟨g', 0, none⟩, cap', rfl, by omega, hide ⟨HC6.out, HB6.out, by rw [HT.out, show ival (skL zs k ++ [f, t]) = ival (skL zs k) ++ ival [f, t] by unfold ival; simp]; exact HO6.out⟩⟩, by simp [slN]; omega⟩
    · obtain rfl : k = min 3 q := by omega
      generalize hm : min 3 q = k at *
      have HM := hide hm
      clear hkm hk hm
      by_cases hkq : k = q
      · subst hkq
        have hz : (n : Int) - 8 * (k : Int) = 0 := by have := HQ.out; omega
        go_wp2_with fail
        refine CL.out.mono ?_
        rintro e w2 ⟨rfl, d, rfl⟩
        have HO2 := hide (show (W1.drewN d).ownsRow _ _ _ _ _ _ from HS.out.2.2)
        have HB2 := hide (below_drewN HS.out.2.1 d)
        clear HS CL
        generalize W1.drewN d = W2 at *
        go_wp2_with fail
        exact bodyPost_ret (v := .slice a k c) (by simp [results, Tryd.results90, go_sem]) rfl ⟨a, c, by rw [HM.out], by rw [HM.out]; exact HO2.out, HB2.out⟩
      · have hk3 : k = 3 := by have := HM.out; omega
        have hz : 0 < (n : Int) - 8 * (k : Int) := by have := HQ.out; have := HM.out; omega
        subst hk3
        go_wp2_with fail
        refine CL.out.mono ?_
        rintro e w2 ⟨rfl, d, rfl⟩
        have HO2 := hide (show (W1.drewN d).ownsRow _ _ _ _ _ _ from HS.out.2.2)
        have HB2 := hide (below_drewN HS.out.2.1 d)
        clear HS CL
        generalize W1.drewN d = W2 at *
        go_wp2_with fail
        exact bodyPost_ret (v := .slice a 3 c) (by simp [results, Tryd.results90, go_sem]) rfl ⟨a, c, by rw [HM.out], by rw [HM.out]; exact HO2.out, HB2.out⟩
end Go.Proofs.YtcnfnimgpiaamaaDoor
