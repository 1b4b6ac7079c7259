/-
Contracts of functions of this seat.
-/
import Derived.Test.YtddkcgngpclgfaaRows
import Derived.WalkKit
import Derived.ProofKit
import Derived.OpenShut
import Derived.Test.YtddkcgngpclgfaaBp1
namespace Go.Proofs.Ytddkcgngpclgfaa
open Go.ChangeShapes Go.WideShapes Go.ChangeAt Go.RowKit
set_option linter.unusedVariables false
set_option maxRecDepth 100000
/-- How far on a pointer's piece begins. -/
def msP (x : Int) (t : Value) (w : World) : Nat := match t with
  | .pointer (some p) => (match w.cell? ⟨p.block, 0, none⟩ with | some (.int _ z) => (x - z).toNat + 1 | _ => 0)
  | _ => 0
theorem msP_some {x z : Int} {c : Nat} {w : World} (h : w.cell? ⟨c, 0, none⟩ = some (.int .i64 z)) : msP x (.pointer (some ⟨c, 0, none⟩)) w = (x - z).toNat + 1 := by
  show (match w.cell? ⟨c, 0, none⟩ with | some (.int _ z) => (x - z).toNat + 1 | _ => 0) = _
  rw [h]
theorem msP_lt {B L : Nat} {u x z : Int} {xs ys : List (Nat × PieceM)} {w : World} (h : DL w B L u x (xs ++ ys)) (hz : z < x) (hy : ∀ p ∈ ys.head?, z < p.2.f0 ∧ p.2.f0 ≤ x) : msP x (ptO (fstO ys none)) w < (x - z).toNat + 1 := by
  cases ys with
  | nil => show 0 < _; omega
  | cons p r =>
    obtain ⟨c, q⟩ := p
    have h1 := hy (c, q) rfl
    have h2 : msP x (.pointer (some ⟨c, 0, none⟩)) w = (x - q.f0).toNat + 1 := msP_some (h.at.cell 0 _ rfl)
    show msP x (.pointer (some ⟨c, 0, none⟩)) w < _
    have h3 : z < q.f0 ∧ q.f0 ≤ x := h1
    rw [h2]
    omega
theorem chk_head {os : List PieceM} {m x : Int} {z : Int} (h : chk m os = some x) (hz : z < m) : ∀ p ∈ os.head?, z < p.f0 ∧ p.f0 ≤ x := by
  cases os with
  | nil => intro p hp; cases hp
  | cons o r =>
    intro p hp
    have e : o = p := Option.some.inj hp
    subst e
    by_cases hh : o.f0 = m ∧ vp o
    · rw [chk_cons hh.1 hh.2] at h
      have h1 := chk_le _ _ _ h
      have h2 := hh.2.1
      omega
    · rw [chk_ill hh] at h; cases h
theorem head_snd {ys : List (Nat × PieceM)} {P : PieceM → Prop} (h : ∀ p ∈ (ys.map Prod.snd).head?, P p) : ∀ p ∈ ys.head?, P p.2 := by
  cases ys with
  | nil => intro p hp; cases hp
  | cons q r => intro p hp; have e : q = p := Option.some.inj hp; subst e; exact h q.2 rfl
set_option maxHeartbeats 8000000 in
theorem split_full (B L : Nat) (u x k : Int) (ns : List (Nat × PieceM)) (w : World) (h : DL w B L u x ns) (hok : bOK u x (ns.map Prod.snd)) (hk : 1 ≤ k ∧ k ≤ 65535) (hf : 4096 < cntS k (ns.map Prod.snd)) :
    Calls Try.prog 43 #[.pointer (some ⟨L, 0, none⟩), .int .i64 k] w fun e w' => e = .returned (.bool false) ∧ Below w.heap.size w w' := by
  have CC := hide (countOf_walk B L u x k ns w h hok hk)
  clear h hok hk
  generalize cntS k (ns.map Prod.snd) = s at *
  go_enter Try.func43, Try.ntmps43
  go_wp2_with (go_at_call 53; refine CC.out.mono ?_; rintro e w2 ⟨rfl, hw2⟩)
  go_ret
  exact ⟨rfl, hw2⟩
set_option maxHeartbeats 16000000 in
theorem split_yes (B L : Nat) (u x k : Int) (ns : List (Nat × PieceM)) (w : World) (h : DL w B L u x ns) (hB : B ≤ w.heap.size) (hok : bOK u x (ns.map Prod.snd)) (hk : 1 ≤ k ∧ k ≤ 65535) (hf : ¬ 4096 < cntS k (ns.map Prod.snd)) :
    Calls Try.prog 43 #[.pointer (some ⟨L, 0, none⟩), .int .i64 k] w fun e w' => ∃ ns2, e = .returned (.bool true) ∧ DL w' B L u x ns2 ∧ ns2.map Prod.snd = splitL k (ns.map Prod.snd) ∧ Below B w w' := by
  have CC := hide (countOf_walk B L u x k ns w h hok hk)
  have HD := hide h
  have HK := hide hk
  have HCH : Hid (chk u (ns.map Prod.snd) = some x) := hide hok.2.2.2
  have HU : Hid (0 ≤ u ∧ x ≤ 1099511627776) := hide ⟨hok.1, hok.2.1⟩
  have HLS : Hid ((splitL k (ns.map Prod.snd)).length ≤ 4096) := hide (by
    have h1 := split_len hk.1 (ns.map Prod.snd) (fun o ho => (bOK_piece hok ho).2.1)
    omega)
  obtain ⟨k1, k2⟩ := hk
  clear h hok
  obtain ⟨s, hs⟩ : ∃ s, s = cntS k (ns.map Prod.snd) := ⟨_, rfl⟩
  rw [← hs] at CC hf
  clear hs
  go_enter Try.func43, Try.ntmps43
  go_wp2_with (go_at_call 53; refine CC.out.mono ?_; rintro e w2 ⟨rfl, hw2⟩; have l3 := (HD.out.next hw2).head.cell 3 _ rfl)
  have HD2 := hide (HD.out.next hw2)
  have HB2 := hide (hw2.mono hB)
  clear hw2 CC HD l3
  go_loopw [5] (fun t w2 => ∃ (xs ys : List (Nat × PieceM)) (m : Int), t = ptO (fstO ys none) ∧ Hid (DL w2 B L u x (xs ++ ys)) ∧ Hid (xs.map Prod.snd ++ splitL k (ys.map Prod.snd) = splitL k (ns.map Prod.snd)) ∧ Hid (chk m (ys.map Prod.snd) = some x) ∧ 0 ≤ m ∧ Hid (Below B w w2)) (fun t w2 => msP x t w2)
  case atStart => exact ⟨[], ns, u, rfl, HD2, hide rfl, HCH, HU.out.1, HB2⟩
  case round =>
    obtain ⟨xs, ys, m, rfl, HD, HE, HC, hm, HB⟩ := hrel
    cases ys with
    | nil =>
      simp only [show ptO (fstO ([] : List (Nat × PieceM)) none) = Value.pointer none from rfl]
      go_wp2_with fail
      go_ret
      exact ⟨xs ++ [], rfl, HD.out, by rw [List.append_nil, ← HE.out]; simp [splitL], HB.out⟩
    | cons p ys =>
      obtain ⟨c, q⟩ := p
      have hC := HD.out.at
      obtain ⟨hq0, hqv, hqc⟩ : q.f0 = m ∧ vp q ∧ chk q.f1 (ys.map Prod.snd) = some x := by
        have h1 : chk m (q :: ys.map Prod.snd) = some x := HC.out
        by_cases hh : q.f0 = m ∧ vp q
        · rw [chk_cons hh.1 hh.2] at h1; exact ⟨hh.1, hh.2, h1⟩
        · rw [chk_ill hh] at h1; cases h1
      have HQC := hide hqc
      have HQV := hide hqv
      have hx1 := chk_le _ _ _ hqc
      have q0 : 0 ≤ q.f0 := by omega
      have q1 : q.f0 < q.f1 := hqv.1
      have q2 : q.f1 ≤ 1099511627776 := by have := HU.out.2; omega
      have HM1 : Hid (msP x (.pointer (some ⟨c, 0, none⟩)) wr = (x - q.f0).toNat + 1) := hide (msP_some (hC.cell 0 _ rfl))
      have HLL : Hid ((xs ++ (c, q) :: ys).length ≤ 4096) := hide (by
        have h1 := congrArg List.length HE.out
        rw [List.length_append, List.length_map] at h1
        have h2 := split_ge k (((c, q) :: ys).map Prod.snd)
        rw [List.length_map] at h2
        have := HLS.out
        rw [List.length_append]
        omega)
      have hcB : B ≤ c := HD.out.lo c (by simp [bks])
      have hbs := HB.out.size
      simp only [show ptO (fstO ((c, q) :: ys) none) = Value.pointer (some ⟨c, 0, none⟩) from rfl]
      clear hq0 hqv hqc
      obtain ⟨x0, x1, x2, x3, x4, x5⟩ := q
      try dsimp only at q0 q1 q2 hx1
      have c0 : wr.cell? ⟨c, 0, none⟩ = some (.int .i64 x0) := hC.cell 0 _ rfl
      have c1 : wr.cell? ⟨c, 1, none⟩ = some (.int .i64 x1) := hC.cell 1 _ rfl
      have c2 : wr.cell? ⟨c, 2, none⟩ = some (.int .i64 x2) := hC.cell 2 _ rfl
      have c3 : wr.cell? ⟨c, 3, none⟩ = some (.int .i64 x3) := hC.cell 3 _ rfl
      have c4 : wr.cell? ⟨c, 4, none⟩ = some (.bool x4) := hC.cell 4 _ rfl
      have c5 : wr.cell? ⟨c, 5, none⟩ = some (.bool x5) := hC.cell 5 _ rfl
      clear hC
      have CZ := hide (size_walk x0 x1 x2 x3 x4 x5 wr q0 q1 q2)
      by_cases hgt : k < x1 - x0
      · have CUT := hide (fun (W : World) (hW : Below wr.heap.size wr W) => cut_walk B L c u x k xs ys ⟨x0, x1, x2, x3, x4, x5⟩ W (HD.out.next hW) (by have := hW.size; omega) (by have := HLL.out; omega) q0 (by show x0 + k ≤ _; omega) ⟨k1, k2⟩)
        have hbig : cutL k (⟨x0, x1, x2, x3, x4, x5⟩ : PieceM) = ⟨x0, x0 + k, x2, x3, x4, x5⟩ :: cutL k ⟨x0 + k, x1, x2, x3, x4, x5⟩ := cut_big k1 hgt
        have HE2 : Hid (∀ N, (xs ++ [(c, (⟨x0, x0 + k, x2, x3, x4, x5⟩ : PieceM))]).map Prod.snd ++ splitL k (((N, (⟨x0 + k, x1, x2, x3, x4, x5⟩ : PieceM)) :: ys).map Prod.snd) = splitL k (ns.map Prod.snd)) := hide (fun N => by
          rw [← HE.out, List.map_cons, List.map_cons, splitL_cons, splitL_cons]
          show _ = xs.map Prod.snd ++ (cutL k (⟨x0, x1, x2, x3, x4, x5⟩ : PieceM) ++ splitL k (ys.map Prod.snd))
          rw [hbig]
          simp)
        have HCK : Hid (∀ N, chk (x0 + k) (((N, (⟨x0 + k, x1, x2, x3, x4, x5⟩ : PieceM)) :: ys).map Prod.snd) = some x) := hide (fun N => (chk_cons (a := x0 + k) (o := (⟨x0 + k, x1, x2, x3, x4, x5⟩ : PieceM)) (os := ys.map Prod.snd) rfl (show vp (⟨x0 + k, x1, x2, x3, x4, x5⟩ : PieceM) from ⟨(by show x0 + k < x1; omega), HQV.out.2⟩)).trans HQC.out)
        clear hbig
        go_wp2_with (go_at_call 50; refine CZ.out.mono ?_; rintro e w4 ⟨rfl, hb4⟩)
        refine (CUT.out w4 hb4).mono ?_
        rintro e w5 ⟨N, rfl, hD5, hb5⟩
        have HD5 : Hid (DL w5 B L u x ((xs ++ [(c, (⟨x0, x0 + k, x2, x3, x4, x5⟩ : PieceM))]) ++ (N, (⟨x0 + k, x1, x2, x3, x4, x5⟩ : PieceM)) :: ys)) := hide (by rw [List.append_assoc]; exact hD5)
        have HB5 : Hid (Below B w w5) := hide ((HB.out.trans (hb4.mono (by omega))).trans hb5)
        have c7 : w5.cell? ⟨c, 7, none⟩ = some (.pointer (some ⟨N, 0, none⟩)) := hD5.at.cell 7 _ rfl
        have HMS : Hid (msP x (.pointer (some ⟨N, 0, none⟩)) w5 = (x - (x0 + k)).toNat + 1) := hide (msP_some (HD5.out.at.cell 0 _ rfl))
        clear hD5 hb5 hb4 CUT CZ HD c0 c1 c2 c3 c4 c5
        go_wp2_with fail
        exact ⟨⟨xs ++ [(c, _)], (N, ⟨x0 + k, x1, x2, x3, x4, x5⟩) :: ys, x0 + k, rfl, HD5, hide (HE2.out N), hide (HCK.out N), by omega, HB5⟩, by rw [HM1.out, HMS.out]; show _ < (x - x0).toNat + 1; omega⟩
      · have hsm : cutL k (⟨x0, x1, x2, x3, x4, x5⟩ : PieceM) = [⟨x0, x1, x2, x3, x4, x5⟩] := cut_small hgt
        have HE2 : Hid ((xs ++ [(c, (⟨x0, x1, x2, x3, x4, x5⟩ : PieceM))]).map Prod.snd ++ splitL k (ys.map Prod.snd) = splitL k (ns.map Prod.snd)) := hide (by
          rw [← HE.out, List.map_cons, splitL_cons]
          show _ = xs.map Prod.snd ++ (cutL k (⟨x0, x1, x2, x3, x4, x5⟩ : PieceM) ++ splitL k (ys.map Prod.snd))
          rw [hsm]
          simp)
        have HDN : Hid (∀ W, Below wr.heap.size wr W → DL W B L u x ((xs ++ [(c, (⟨x0, x1, x2, x3, x4, x5⟩ : PieceM))]) ++ ys) ∧ Below B w W ∧ W.cell? ⟨c, 7, none⟩ = some (ptO (fstO ys none)) ∧ msP x (ptO (fstO ys none)) W < (x - x0).toNat + 1) := hide (fun W hW => by
          have hd := HD.out.next hW
          have hd2 : DL W B L u x ((xs ++ [(c, (⟨x0, x1, x2, x3, x4, x5⟩ : PieceM))]) ++ ys) := by rw [List.append_assoc]; exact hd
          refine ⟨hd2, HB.out.trans (hW.mono (by omega)), hd.at.cell 7 _ rfl, msP_lt hd2 (by omega) (head_snd (P := fun o => x0 < o.f0 ∧ o.f0 ≤ x) (chk_head HQC.out q1))⟩)
        clear hsm
        go_wp2_with (go_at_call 50; refine CZ.out.mono ?_; rintro e w4 ⟨rfl, hb4⟩; have c7 := (HDN.out w4 hb4).2.2.1)
        exact ⟨⟨xs ++ [(c, _)], ys, x1, rfl, hide (HDN.out _ hb4).1, HE2, hide HQC.out, by omega, hide (HDN.out _ hb4).2.1⟩, by rw [HM1.out]; exact (HDN.out _ hb4).2.2.2⟩
end Go.Proofs.Ytddkcgngpclgfaa
