/-
Contracts of functions of this seat.
-/
import Derived.Test.YtfffkgladjphoaaRows
import Derived.WalkKit
import Derived.ProofKit
import Derived.OpenShut
import Derived.Test.YtfffkgladjphoaaBl5
import Derived.Test.YtfffkgladjphoaaBl2
import Derived.Deep.RegionWith
import Derived.Deep.RegionHeld3
namespace Go.Proofs.Ytfffkgladjphoaa
open Go.ChangeShapes Go.WideShapes Go.ChangeAt Go.RowKit
set_option linter.unusedVariables false
set_option maxRecDepth 100000
theorem DL.mono {w : World} {B C L : Nat} {u x : Int} {ns : List (Nat × PieceM)} (h : DL w B L u x ns) (hC : C ≤ B) : DL w C L u x ns := ⟨h.head, h.seg, h.nd, fun b hb => Nat.le_trans hC (h.lo b hb)⟩
theorem bks_len (ns : List (Nat × PieceM)) : (bks ns).length = ns.length := List.length_map _
set_option maxHeartbeats 8000000 in
theorem newPieceList_no (u x : Int) (a : Option Addr) (n cap : Nat) (os : List PieceM) (w : World) (hn : os.length = n) (ha : ArrP w a (os.flatMap valPiece)) (hm : n ≤ 1048576) (hno : ¬ bOK u x os) :
    Calls Try.prog 19 #[.agg #[.int .i64 u, .int .i64 x, .slice a n cap]] w fun e w' => e = .returned (.tuple #[.pointer none, .bool false]) ∧ Below w.heap.size w w' := by
  have HB0 := hide (BoxV.start w #[.int .i64 u, .int .i64 x, .slice a n cap] 28)
  have k0 := HB0.out.cell 0 _ rfl; have k1 := HB0.out.cell 1 _ rfl; have k2 := HB0.out.cell 2 _ rfl
  have CV := hide (validBoard_walk u x a n cap os (w.alloc (.cells #[.int .i64 u, .int .i64 x, .slice a n cap] 28)) hn (ha.below HB0.out.1 (Nat.le_refl _)) hm)
  rw [bokB_no hno] at CV
  clear hn ha hno
  go_enter Try.func19, Try.ntmps19
  go_wp2_with fail
  refine CV.out.mono ?_
  rintro e w1 ⟨rfl, hw1⟩
  go_wp2_with fail
  go_ret2
  exact ⟨rfl, (HB0.out.next hw1).1⟩
set_option maxHeartbeats 8000000 in
theorem newPieceList_yes (u x : Int) (a : Option Addr) (n cap : Nat) (os : List PieceM) (w : World) (hn : os.length = n) (ha : ArrP w a (os.flatMap valPiece)) (hm : n ≤ 1048576) (hok : bOK u x os) :
    Calls Try.prog 19 #[.agg #[.int .i64 u, .int .i64 x, .slice a n cap]] w fun e w' => ∃ (L : Nat) (ns : List (Nat × PieceM)), e = .returned (.tuple #[.pointer (some ⟨L, 0, none⟩), .bool true]) ∧ DL w' w.heap.size L u x ns ∧ ns.map Prod.snd = os ∧ Below w.heap.size w w' := by
  have HB0 := hide (BoxV.start w #[.int .i64 u, .int .i64 x, .slice a n cap] 28)
  have k0 := HB0.out.cell 0 _ rfl; have k1 := HB0.out.cell 1 _ rfl; have k2 := HB0.out.cell 2 _ rfl
  have CV := hide (validBoard_walk u x a n cap os (w.alloc (.cells #[.int .i64 u, .int .i64 x, .slice a n cap] 28)) hn (ha.below HB0.out.1 (Nat.le_refl _)) hm)
  rw [bokB_yes hok] at CV
  have HN := hide hn; have HA := hide ha
  clear hn ha hok
  go_enter Try.func19, Try.ntmps19
  go_wp2_with fail
  refine CV.out.mono ?_
  rintro e w1 ⟨rfl, hw1⟩
  have HB1 := hide (HB0.out.next hw1)
  clear hw1 k0 k1 k2 CV HB0
  have k0 := HB1.out.cell 0 _ rfl; have k1 := HB1.out.cell 1 _ rfl; have k2 := HB1.out.cell 2 _ rfl
  have HB2 := hide (HB1.out.next ((Below.refl _ _).alloc (Nat.le_refl _) (.cells #[.int .i64 u, .int .i64 x, .int .i64 0, .pointer none, .pointer none] plT)))
  have HD : Hid (DL (w1.alloc (.cells #[.int .i64 u, .int .i64 x, .int .i64 0, .pointer none, .pointer none] plT)) w1.heap.size w1.heap.size u x []) := hide ⟨hv_new _ _ _, trivial, by simp, fun b hb => by simp at hb; omega⟩
  have hL : w.heap.size < w1.heap.size := HB1.out.2.1
  go_wp2_with fail
  clear k0 k1 k2
  generalize w1.alloc (.cells #[.int .i64 u, .int .i64 x, .int .i64 0, .pointer none, .pointer none] plT) = V0 at *
  generalize w1.heap.size = L at *
  go_loopw [19] (fun t w2 => ∃ (i : Nat) (ns : List (Nat × PieceM)), i ≤ n ∧ t = .int .i64 i ∧ Hid (ns.map Prod.snd = os.take i) ∧ Hid (DL w2 L L u x ns) ∧ Hid (BoxV w w2 #[.int .i64 u, .int .i64 x, .slice a n cap] 28)) (fun t _ => n - (intOf t).toNat)
  case atStart => exact ⟨0, [], Nat.zero_le _, rfl, hide rfl, HD, HB2⟩
  case round =>
    obtain ⟨i, ns, hi, rfl, HM, HD, HB⟩ := hrel
    by_cases hlt : i < n
    · have hio : i < os.length := by rw [HN.out]; exact hlt
      obtain ⟨b, off, rfl, hbs, c0, c1, c2, c3, c4, c5⟩ := piece_cells (HA.out.below HB.out.1 (Nat.le_refl _)) hio
      have HT : Hid (os.take (i + 1) = os.take i ++ [os[i]]) := hide (List.take_append_getElem hio).symm
      have HNS : Hid (ns.length ≤ 1048576) := hide (by have := congrArg List.length HM.out; rw [List.length_map, List.length_take] at this; omega)
      generalize os[i] = o at *
      have hal := (Below.refl wr.heap.size wr).alloc (Nat.le_refl _) (.cells #[.int .i64 o.f0, .int .i64 o.f1, .int .i64 o.f2, .int .i64 o.f3, .bool o.f4, .bool o.f5] 36)
      have HR : Hid (HoldV (wr.alloc (.cells #[.int .i64 o.f0, .int .i64 o.f1, .int .i64 o.f2, .int .i64 o.f3, .bool o.f4, .bool o.f5] 36)) wr.heap.size _ 36) := hide (hv_new _ _ _)
      have HB2 := hide (HB.out.next hal)
      have HD2 := hide (HD.out.next hal)
      have hLr : L < wr.heap.size := HD.out.head.lt
      clear hal HB HD
      go_wp2_with fail
      clear c0 c1 c2 c3 c4 c5
      generalize wr.alloc (.cells #[.int .i64 o.f0, .int .i64 o.f1, .int .i64 o.f2, .int .i64 o.f3, .bool o.f4, .bool o.f5] 36) = V at *
      have l4 := HD2.out.head.cell 4 _ rfl
      have r0 := HR.out.cell 0 _ rfl; have r1 := HR.out.cell 1 _ rfl; have r2 := HR.out.cell 2 _ rfl; have r3 := HR.out.cell 3 _ rfl; have r4 := HR.out.cell 4 _ rfl; have r5 := HR.out.cell 5 _ rfl
      have hLV : L ≤ V.heap.size := Nat.le_of_lt HD2.out.head.lt
      have CP := hide (put_walk L L u x ns [] o V.drew (by rw [List.append_nil]; exact HD2.out.drew) hLV (by rw [List.append_nil]; exact HNS.out))
      go_region_with ((go_at_call 32; refine CP.out.mono ?_; rintro e w3 ⟨rfl, hD3, hb3, hs3⟩))
      all_goals
        have HM2 : Hid ((ns ++ [(V.drew.heap.size + 1, o)]).map Prod.snd = os.take (i + 1)) := hide (by rw [HT.out, List.map_append, HM.out]; rfl)
        have HB3 := hide (HB2.out.keep (below_drew hb3) hL)
        have HD3 := hide hD3
        clear hD3 hb3 hs3 HD2 HB2 HR CP r0 r1 r2 r3 r4 r5 l4
        go_wp2_with fail
        exact ⟨⟨i + 1, _, by omega, by go_num, HM2, HD3, HB3⟩, by simp [intOf]; omega⟩
    · have hin : i = n := by omega
      subst hin
      have HM2 : Hid (ns.map Prod.snd = os) := hide (by rw [HM.out, ← HN.out, List.take_length])
      go_wp2_with fail
      go_ret2
      exact ⟨L, ns, rfl, HD.out.mono (Nat.le_of_lt hL), HM2.out, HB.out.1⟩
end Go.Proofs.Ytfffkgladjphoaa
