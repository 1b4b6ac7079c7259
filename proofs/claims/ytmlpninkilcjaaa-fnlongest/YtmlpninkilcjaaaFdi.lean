/-
Contracts of functions of this seat.
-/
import Derived.Test.YtmlpninkilcjaaaRows
import Derived.WalkKit
import Derived.ProofKit
import Derived.OpenShut
import Derived.Test.YtmlpninkilcjaaaLgs
import Derived.Test.YtmlpninkilcjaaaLfr
namespace Go.Proofs.Ytmlpninkilcjaaa
open Go.ChangeShapes Go.WideShapes Go.ChangeAt Go.RowKit
set_option linter.unusedVariables false
set_option maxRecDepth 100000
theorem pB_rtIn (zs : List Int) (x b : Nat) (hx : x < 4294967296) (hb : b ≤ 32) : ∀ k, rtIn zs (x : Int) (b : Int) k = pB zs k (x - x % 2 ^ (32 - b)) b
  | 0 => rfl
  | k + 1 => by
    have ih := pB_rtIn zs x b hx hb k
    obtain ⟨hmv, hmt⟩ := msk_vP x b hx hb
    show rtInS zs (x : Int) (b : Int) (rtIn zs (x : Int) (b : Int) k) k = (if rtOK (rA zs k) (rB zs k) (rV zs k) (rL zs k) (rM zs k) = true then hungF (rM zs) (pB zs k) (rA zs k).toNat (rB zs k).toNat k else pB zs k) (x - x % 2 ^ (32 - b)) b
    unfold rtInS
    by_cases ho : rtOK (rA zs k) (rB zs k) (rV zs k) (rL zs k) (rM zs k) = true
    · rw [if_pos ho]
      obtain ⟨pa, pb, e1, e2, hv⟩ := vP_of (rtOK_pref ho)
      have hc : rtC zs (x : Int) k = decide (topB x pb = topB pa pb) := by
        unfold rtC
        rw [ho, e1, e2, hasB_top hv hx]
        rfl
      rw [hc, e1, e2, ih, show ((pa : Int)).toNat = pa by omega, show ((pb : Int)).toNat = pb by omega]
      by_cases hsame : pa = x - x % 2 ^ (32 - b) ∧ pb = b
      · obtain ⟨h1, h2⟩ := hsame
        subst h2
        rw [← h1]
        have ht : topB x pb = topB pa pb := by rw [h1]; exact hmt.symm
        unfold hungF
        cases hp : pB zs k pa pb with
        | none =>
          rw [if_pos ⟨decide_eq_true ht, rfl, fun j h => (by cases h)⟩]
          show some k = upF (pB zs k) pa pb k pa pb
          unfold upF
          rw [if_pos ⟨rfl, rfl⟩]
        | some i =>
          show _ = (if rM zs k < rM zs i then upF (pB zs k) pa pb k else pB zs k) pa pb
          by_cases hm : rM zs k < rM zs i
          · rw [if_pos hm, if_pos ⟨decide_eq_true ht, rfl, fun j h => (by cases h; exact hm)⟩]
            unfold upF
            rw [if_pos ⟨rfl, rfl⟩]
          · rw [if_neg hm, if_neg (fun h => hm (h.2.2 i rfl))]
            exact hp.symm
      · have hno : ¬ (decide (topB x pb = topB pa pb) = true ∧ (pb : Int) = (b : Int) ∧ ∀ j, pB zs k (x - x % 2 ^ (32 - b)) b = some j → rM zs k < rM zs j) := by
          rintro ⟨h1, h2, _⟩
          have h3 : pb = b := by omega
          subst h3
          exact hsame ⟨vP_eq hv hmv (by rw [hmt]; exact (of_decide_eq_true h1).symm), rfl⟩
        rw [if_neg hno]
        have hu : upF (pB zs k) pa pb k (x - x % 2 ^ (32 - b)) b = pB zs k (x - x % 2 ^ (32 - b)) b := by
          unfold upF
          rw [if_neg (fun h => hsame ⟨h.1.symm, h.2.symm⟩)]
        unfold hungF
        cases hp : pB zs k pa pb with
        | none => exact hu.symm
        | some i =>
          show _ = (if rM zs k < rM zs i then upF (pB zs k) pa pb k else pB zs k) _ b
          by_cases hm : rM zs k < rM zs i
          · rw [if_pos hm]; exact hu.symm
          · rw [if_neg hm]
    · rw [if_neg ho, if_neg (fun h => ho (by have := h.1; unfold rtC at this; simp only [Bool.and_eq_true] at this; exact this.1))]
      exact ih
theorem best_of {zs : List Int} {x n : Nat} {o : Option Nat} (hx : x < 4294967296)
    (h : (o = none → ∀ b, b ≤ 32 → pB zs n (x - x % 2 ^ (32 - b)) b = none) ∧ (∀ j, o = some j → ∃ b, b ≤ 32 ∧ pB zs n (x - x % 2 ^ (32 - b)) b = some j ∧ ∀ b', b < b' → b' ≤ 32 → pB zs n (x - x % 2 ^ (32 - b')) b' = none)) : rtBest zs (x : Int) n = o := by
  cases ho : o with
  | none =>
    refine rt_end zs _ n (fun b hb => ?_)
    by_cases h32 : 32 < b
    · exact rtIn_big zs _ b h32 n
    · obtain ⟨c, rfl⟩ := Int.eq_ofNat_of_zero_le (show 0 ≤ b by omega)
      have := pB_rtIn zs x c hx (by omega) n
      rw [this]
      exact h.1 ho c (by omega)
  | some j =>
    obtain ⟨b, hb, h1, h2⟩ := h.2 j ho
    refine rt_hit zs _ (b : Int) n j (fun c hc => ?_) (by rw [pB_rtIn zs x b hx hb]; exact h1)
    by_cases h32 : 32 < c
    · exact rtIn_big zs _ c h32 n
    · obtain ⟨d, rfl⟩ := Int.eq_ofNat_of_zero_le (show 0 ≤ c by omega)
      have := pB_rtIn zs x d hx (by omega) n
      rw [this]
      exact h2 d (by omega) (by omega)
theorem best_none {zs : List Int} {dst : Int} (hd : adrB dst = false) (n : Nat) : rtBest zs dst n = none := by
  induction n with
  | zero => rfl
  | succ k ih =>
    show rtStep zs dst (rtBest zs dst k) k = none
    unfold rtStep
    have hc : rtC zs dst k = false := by unfold rtC; rw [hasB_adr hd, Bool.and_false]
    rw [hc, ih]
    rfl
set_option maxHeartbeats 8000000 in
theorem longest_out (zs : List Int) (root : Nat) (G : Gr) (f : Nat → Nat → Option Nat) (B0 : Nat) (dst : Int) (w : World) (hT : TI w B0 root (routeV zs) f G) (hd : adrB dst = false) :
    Calls Try.prog 21 #[.pointer (some ⟨root, 0, none⟩), .int .i64 dst] w fun e w' => e = .returned (.tuple #[.agg (bestV zs none), .bool false]) ∧ Below w.heap.size w w' := by
  obtain ⟨hb2, hR, hF⟩ := two_allocs w (.cells zeroR rtT) (.cells zeroR rtT)
  have HL0 : Hid (LgB w ((w.alloc (.cells zeroR rtT)).alloc (.cells zeroR rtT)) zs none) := hide ⟨hb2, hR, hF⟩
  obtain ⟨r, hr, ra, rb⟩ := hT.ok.rt
  have HN : Hid (HoldV ((w.alloc (.cells zeroR rtT)).alloc (.cells zeroR rtT)) root (nodeV r) ndT) := hide ((hT.th.node root r hr).1.next hb2)
  have CH : Hid (∀ W, Calls Try.prog 44 #[.agg #[.int .i64 (r.a : Int), .int .i64 (r.b : Int)], .int .i64 dst] W fun e w' => e = .returned (.bool false) ∧ Below W.heap.size W w') := hide (fun W => by have := has_walk (r.a : Int) (r.b : Int) dst W; rw [hasB_adr hd] at this; exact this)
  clear hT hb2 hR hF hr ra rb hd
  go_enter Try.func21, Try.ntmps21
  go_wp2_with fail
  generalize hW : (w.alloc (.cells zeroR 27)).alloc (.cells zeroR 27) = W0 at *
  clear hW
  go_loopw [7, 8] (fun t u w2 => t = .bool false ∧ u = .pointer (some ⟨root, 0, none⟩) ∧ Hid (LgB w w2 zs none) ∧ Hid (HoldV w2 root (nodeV r) ndT)) (fun _ _ _ => 0)
  case atStart => exact ⟨rfl, rfl, HL0, HN⟩
  case round =>
    obtain ⟨rfl, rfl, HL, HN⟩ := hrel
    have n0 := HN.out.cell 0 (.int .i64 (r.a : Int)) rfl
    have n1 := HN.out.cell 1 (.int .i64 (r.b : Int)) rfl
    go_wp2_with ((go_at_call 44; refine (CH.out _).mono ?_; rintro e w1 ⟨rfl, hb1⟩; have HL1 := HL.out.next hb1; obtain ⟨⟨d0, d1, d2, d3, d4, df⟩, f0, f1, f2, f3, f4, ff⟩ := HL1.cells))
    exact bodyPost_ret (v := .tuple #[.agg (bestV zs none), .bool false]) (by simp [results, Try.results21, go_sem, d0, d1, d2, d3, d4]) rfl ⟨rfl, ((((HL1.below.setCell (p := ⟨w.heap.size, 0, none⟩) (Nat.le_refl _) _).setCell (p := ⟨w.heap.size, 1, none⟩) (Nat.le_refl _) _).setCell (p := ⟨w.heap.size, 2, none⟩) (Nat.le_refl _) _).setCell (p := ⟨w.heap.size, 3, none⟩) (Nat.le_refl _) _).setCell (p := ⟨w.heap.size, 4, none⟩) (Nat.le_refl _) _⟩
theorem longest_best (zs : List Int) (n root : Nat) (G : Gr) (B0 : Nat) (dst : Int) (w : World) (hT : TI w B0 root (routeV zs) (pB zs n) G) :
    Calls Try.prog 21 #[.pointer (some ⟨root, 0, none⟩), .int .i64 dst] w fun e w' => e = .returned (.tuple #[.agg (bestV zs (rtBest zs dst n)), .bool (rtBest zs dst n).isSome]) ∧ Below w.heap.size w w' := by
  by_cases hd : adrB dst = true
  · have h0 := adrB_iff.1 hd
    obtain ⟨x, rfl⟩ := Int.eq_ofNat_of_zero_le h0.1
    have hx : x < 4294967296 := by omega
    refine (longest_walk zs root G (pB zs n) B0 x w hT hx).mono ?_
    rintro e w' ⟨i, o, rfl, hb, hs, hv⟩
    have := best_of hx (hs.best hT.ok hT.hung hv hx)
    show Ending.returned (.tuple #[.agg (bestV zs o), .bool o.isSome]) = .returned (.tuple #[.agg (bestV zs (rtBest zs (x : Int) n)), .bool (rtBest zs (x : Int) n).isSome]) ∧ _
    rw [this]
    exact ⟨rfl, hb⟩
  · have hd : adrB dst = false := by simpa using hd
    have h := longest_out zs root G (pB zs n) B0 dst w hT hd
    rw [best_none hd]
    exact h
set_option maxHeartbeats 4000000 in
theorem implFind_walk (a : Option Addr) (n cap : Nat) (zs : List Int) (dst : Int) (w : World) (hn : zs.length = n * 5) (ha : ArrI w a zs) (hm : n ≤ 1048576) :
    Calls Try.prog 9 #[.slice a n cap, .int .i64 dst] w fun e w' => e = .returned (.tuple #[.agg (bestV zs (rtBest zs dst n)), .bool (rtBest zs dst n).isSome]) ∧ Below w.heap.size w w' := by
  have HB0 := hide (BoxV.start w zeroR 27)
  have CT := hide (routeTree_walk a n cap zs (w.alloc (.cells zeroR rtT)) hn (ha.below ((Below.refl w.heap.size w).alloc (Nat.le_refl _) _) (Nat.le_refl _)) hm)
  clear ha hn
  go_enter Try.func9, Try.ntmps9
  go_wp2_with ((go_at_call 22; refine CT.out.mono ?_; rintro e w1 ⟨rfl, hb1, G, hti⟩))
  rw [World.size_alloc] at hti hb1
  have HB1 : Hid (BoxV w w1 zeroR 27) := hide (HB0.out.keep hb1 (by omega))
  refine (longest_best zs n _ G _ dst w1 hti).mono ?_
  rintro e w2 ⟨rfl, hb2⟩
  have HB2 := hide (HB1.out.next hb2)
  clear hb1 hb2 hti CT HB0 HB1
  have d0 := HB2.out.cell 0 _ rfl
  have d1 := HB2.out.cell 1 _ rfl
  have d2 := HB2.out.cell 2 _ rfl
  have d3 := HB2.out.cell 3 _ rfl
  have d4 := HB2.out.cell 4 _ rfl
  have dz := HoldV.frozen (show HoldV w2 w.heap.size _ _ from HB2.out.2.2)
  go_wp2_with fail
  exact bodyPost_ret (v := .tuple #[.agg (bestV zs (rtBest zs dst n)), .bool (rtBest zs dst n).isSome]) (by simp [results, Try.results9, go_sem, d0, d1, d2, d3, d4]) rfl ⟨rfl, ((((HB2.out.1.setCell (p := ⟨w.heap.size, 0, none⟩) (Nat.le_refl _) _).setCell (p := ⟨w.heap.size, 1, none⟩) (Nat.le_refl _) _).setCell (p := ⟨w.heap.size, 2, none⟩) (Nat.le_refl _) _).setCell (p := ⟨w.heap.size, 3, none⟩) (Nat.le_refl _) _).setCell (p := ⟨w.heap.size, 4, none⟩) (Nat.le_refl _) _⟩
/-- FindRoute of the program. -/
theorem implFindRoute (zs : List Int) (dst : Int) (Pre : World → Prop) : FindRouteC 9 Pre zs dst (oI (rtBest zs dst (zs.length / 5)) (rA zs)) (oI (rtBest zs dst (zs.length / 5)) (rB zs)) (oI (rtBest zs dst (zs.length / 5)) (rV zs)) (oI (rtBest zs dst (zs.length / 5)) (rL zs)) (oI (rtBest zs dst (zs.length / 5)) (rM zs)) (rtBest zs dst (zs.length / 5)).isSome := by
  intro a n cap w hn ha _ hm _
  rw [show zs.length / 5 = n by omega]
  exact implFind_walk a n cap zs dst w hn ha hm
end Go.Proofs.Ytmlpninkilcjaaa
