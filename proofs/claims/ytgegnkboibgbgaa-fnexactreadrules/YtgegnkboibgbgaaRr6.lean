/-
Contracts of functions of this seat.
-/
import Derived.Test.YtgegnkboibgbgaaRows
import Derived.WalkKit
import Derived.ProofKit
import Derived.OpenShut
import Derived.Test.YtgegnkboibgbgaaRr5
namespace Go.Proofs.Ytgegnkboibgbgaa
open Go.ChangeShapes Go.WideShapes Go.ChangeAt Go.RowKit
set_option linter.unusedVariables false
set_option maxRecDepth 100000
theorem HoldV.drewu {W : World} {H : Nat} {vs : Array Value} {t : Nat} (h : HoldV W H vs t) : HoldV W.drew H vs t := h
abbrev LSr (w w' : World) (x0 x1 x2 x3 x4 x5 x6 x7 x8 x9 x10 x11 : Int) : Prop := w'.cell? ⟨w.heap.size + 1 + 1, 0, none⟩ = some (.int .i64 x0) ∧ w'.cell? ⟨w.heap.size + 1 + 1, 1, none⟩ = some (.int .i64 x1) ∧ w'.cell? ⟨w.heap.size + 1 + 1, 2, none⟩ = some (.int .i64 x2) ∧ w'.cell? ⟨w.heap.size + 1 + 1, 3, none⟩ = some (.int .i64 x3) ∧ w'.cell? ⟨w.heap.size + 1 + 1, 4, none⟩ = some (.int .i64 x4) ∧ w'.cell? ⟨w.heap.size + 1 + 1, 5, none⟩ = some (.int .i64 x5) ∧ w'.cell? ⟨w.heap.size + 1 + 1, 6, none⟩ = some (.int .i64 x6) ∧ w'.cell? ⟨w.heap.size + 1 + 1, 7, none⟩ = some (.int .i64 x7) ∧ w'.cell? ⟨w.heap.size + 1 + 1, 8, none⟩ = some (.int .i64 x8) ∧ w'.cell? ⟨w.heap.size + 1 + 1, 9, none⟩ = some (.int .i64 x9) ∧ w'.cell? ⟨w.heap.size + 1 + 1, 10, none⟩ = some (.int .i64 x10) ∧ w'.cell? ⟨w.heap.size + 1 + 1, 11, none⟩ = some (.int .i64 x11)
theorem LSr.of {w w' : World} {x0 x1 x2 x3 x4 x5 x6 x7 x8 x9 x10 x11 : Int} (h2 : HoldV w' (w.heap.size + 1 + 1) #[.int .i64 x0, .int .i64 x1, .int .i64 x2, .int .i64 x3, .int .i64 x4, .int .i64 x5, .int .i64 x6, .int .i64 x7, .int .i64 x8, .int .i64 x9, .int .i64 x10, .int .i64 x11] 45) : LSr w w' x0 x1 x2 x3 x4 x5 x6 x7 x8 x9 x10 x11 := ⟨h2.cell 0 _ rfl, h2.cell 1 _ rfl, h2.cell 2 _ rfl, h2.cell 3 _ rfl, h2.cell 4 _ rfl, h2.cell 5 _ rfl, h2.cell 6 _ rfl, h2.cell 7 _ rfl, h2.cell 8 _ rfl, h2.cell 9 _ rfl, h2.cell 10 _ rfl, h2.cell 11 _ rfl⟩
theorem RRU.fin {w W : World} {s : St} {rv : Array Value} (h : RRU w W s rv) {v0 v1 v2 v3 v4 v5 v6 v7 v8 v9 v10 v11 : Value} : Below w.heap.size w (((((((((((((W.setCell ⟨w.heap.size, 0, none⟩ v0).setCell ⟨w.heap.size, 1, none⟩ v1).setCell ⟨w.heap.size, 2, none⟩ v2).setCell ⟨w.heap.size, 3, none⟩ v3).setCell ⟨w.heap.size, 4, none⟩ v4).setCell ⟨w.heap.size, 5, none⟩ v5).setCell ⟨w.heap.size, 6, none⟩ v6).setCell ⟨w.heap.size, 7, none⟩ v7).setCell ⟨w.heap.size, 8, none⟩ v8).setCell ⟨w.heap.size, 9, none⟩ v9).setCell ⟨w.heap.size, 10, none⟩ v10).setCell ⟨w.heap.size, 11, none⟩ v11)) :=
  ((((((((((((h.below.setCell (p := ⟨w.heap.size, 0, none⟩) (Nat.le_refl _) _).setCell (p := ⟨w.heap.size, 1, none⟩) (Nat.le_refl _) _).setCell (p := ⟨w.heap.size, 2, none⟩) (Nat.le_refl _) _).setCell (p := ⟨w.heap.size, 3, none⟩) (Nat.le_refl _) _).setCell (p := ⟨w.heap.size, 4, none⟩) (Nat.le_refl _) _).setCell (p := ⟨w.heap.size, 5, none⟩) (Nat.le_refl _) _).setCell (p := ⟨w.heap.size, 6, none⟩) (Nat.le_refl _) _).setCell (p := ⟨w.heap.size, 7, none⟩) (Nat.le_refl _) _).setCell (p := ⟨w.heap.size, 8, none⟩) (Nat.le_refl _) _).setCell (p := ⟨w.heap.size, 9, none⟩) (Nat.le_refl _) _).setCell (p := ⟨w.heap.size, 10, none⟩) (Nat.le_refl _) _).setCell (p := ⟨w.heap.size, 11, none⟩) (Nat.le_refl _) _)
theorem RRU.hold_fin {w W : World} {s : St} {rv : Array Value} (h : RRU w W s rv) {v0 v1 v2 v3 v4 v5 v6 v7 v8 v9 v10 v11 : Value} : HoldV (((((((((((((W.setCell ⟨w.heap.size, 0, none⟩ v0).setCell ⟨w.heap.size, 1, none⟩ v1).setCell ⟨w.heap.size, 2, none⟩ v2).setCell ⟨w.heap.size, 3, none⟩ v3).setCell ⟨w.heap.size, 4, none⟩ v4).setCell ⟨w.heap.size, 5, none⟩ v5).setCell ⟨w.heap.size, 6, none⟩ v6).setCell ⟨w.heap.size, 7, none⟩ v7).setCell ⟨w.heap.size, 8, none⟩ v8).setCell ⟨w.heap.size, 9, none⟩ v9).setCell ⟨w.heap.size, 10, none⟩ v10).setCell ⟨w.heap.size, 11, none⟩ v11)) (w.heap.size + 1 + 1) rv 45 := by
  have far : ∀ {W : World} (i : Nat) (v : Value), HoldV W (w.heap.size + 1 + 1) rv 45 → HoldV (W.setCell ⟨w.heap.size, i, none⟩ v) (w.heap.size + 1 + 1) rv 45 := fun i v h => (heap_setCell_other _ ⟨w.heap.size, i, none⟩ (w.heap.size + 1 + 1) v (by show w.heap.size + 1 + 1 ≠ w.heap.size; omega)).trans h
  exact (far 11 v11 (far 10 v10 (far 9 v9 (far 8 v8 (far 7 v7 (far 6 v6 (far 5 v5 (far 4 v4 (far 3 v3 (far 2 v2 (far 1 v1 (far 0 v0 h.rt))))))))))))
set_option maxHeartbeats 8000000 in
theorem readRule_walk0 (w : World) (a : Option Addr) (ps : List (List UInt8)) (cap : Nat) (hd : Wds ps) (hs : ArrS w a ps) (hc : ps.length ≤ cap) :
    Calls Try.prog 22 #[.slice a ps.length cap] w fun e w' => ∃ (y0 y1 y2 y3 y4 y5 y6 y7 y8 y9 y10 y11 : Int) (okq : Bool), e = .returned (.tuple #[.agg #[.int .i64 y0, .int .i64 y1, .int .i64 y2, .int .i64 y3, .int .i64 y4, .int .i64 y5, .int .i64 y6, .int .i64 y7, .int .i64 y8, .int .i64 y9, .int .i64 y10, .int .i64 y11], .bool okq]) ∧ (prP ps = if okq = true then some [y0, y1, y2, y3, y4, y5, y6, y7, y8, y9, y10, y11] else none) ∧ Below w.heap.size w w' := by
  have H0 := hide (ru_start w a ps cap hs hc hd)
  have HPR : Hid (prP ps = prE (nmV actL (ps, false)) (nmV dirL (rs1 ps)) (nmV proL (rs2 ps)) (apA (rs4 ps).1 (rs4 ps).2) (apB (rs4 ps).1 (rs4 ps).2) (tpL (rs5 ps).1 (rs5 ps).2) (tpH (rs5 ps).1 (rs5 ps).2) (apA (rs7 ps).1 (rs7 ps).2) (apB (rs7 ps).1 (rs7 ps).2) (tpL (rs8 ps).1 (rs8 ps).2) (tpH (rs8 ps).1 (rs8 ps).2) (rs9 ps)) := hide rfl
  generalize prP ps = PP at *
  have EE : Hid (rs2 ps = nmS dirL (rs1 ps) ∧ rs3 ps = nmS proL (rs2 ps) ∧ rs4 ps = kyS kFrom (rs3 ps) ∧ rs5 ps = anS (rs4 ps) ∧ rs6 ps = poS (rs5 ps) ∧ rs7 ps = kyS kTo (rs6 ps) ∧ rs8 ps = anS (rs7 ps) ∧ rs9 ps = poS (rs8 ps)) := hide ⟨rfl, rfl, rfl, rfl, rfl, rfl, rfl, rfl⟩
  have E1 : Hid (rs1 ps = nmS actL (ps, false)) := hide rfl
  generalize rs1 ps = s1 at *
  generalize rs2 ps = s2 at *
  generalize rs3 ps = s3 at *
  generalize rs4 ps = s4 at *
  generalize rs5 ps = s5 at *
  generalize rs6 ps = s6 at *
  generalize rs7 ps = s7 at *
  generalize rs8 ps = s8 at *
  generalize rs9 ps = s9 at *
  have hz0 : w.heap.size + 1 < (((w.alloc (.cells #[.int .i64 0, .int .i64 0, .int .i64 0, .int .i64 0, .int .i64 0, .int .i64 0, .int .i64 0, .int .i64 0, .int .i64 0, .int .i64 0, .int .i64 0, .int .i64 0] 45)).alloc (.cells #[.slice a ps.length cap, .bool false] phT)).alloc (.cells #[.int .i64 0, .int .i64 0, .int .i64 0, .int .i64 0, .int .i64 0, .int .i64 0, .int .i64 0, .int .i64 0, .int .i64 0, .int .i64 0, .int .i64 0, .int .i64 0] 45)).heap.size := H0.out.phr.lt
  clear hd hs hc
  go_enter Try.func22, Try.ntmps22
  go_wp2_with fail
  generalize (((w.alloc (.cells #[.int .i64 0, .int .i64 0, .int .i64 0, .int .i64 0, .int .i64 0, .int .i64 0, .int .i64 0, .int .i64 0, .int .i64 0, .int .i64 0, .int .i64 0, .int .i64 0] 45)).alloc (.cells #[.slice a ps.length cap, .bool false] phT)).alloc (.cells #[.int .i64 0, .int .i64 0, .int .i64 0, .int .i64 0, .int .i64 0, .int .i64 0, .int .i64 0, .int .i64 0, .int .i64 0, .int .i64 0, .int .i64 0, .int .i64 0] 45)) = W0 at *
  refine (actionWords_walk W0).mono ?_
  rintro e u0 ⟨rfl, hLn⟩
  have hx : w.heap.size + 1 < W0.heap.size := H0.out.phr.lt
  have C := hide (ru_named actL W0.heap.size 3 rfl (by omega) hLn.1 hLn.2.1 (by omega) (H0.out.next hLn.2.2))
  clear hLn hx
  go_wp2_with fail
  refine C.out.mono ?_
  rintro e v0 ⟨rfl, h⟩
  generalize nmV actL (ps, false) = A at *
  rw [← E1.out] at h
  have c0 := h.rt.cell 0 (.int .i64 0) rfl
  have cf := h.rt.frozen
  have H1 : Hid (RRU w (v0.setCell ⟨w.heap.size + 1 + 1, 0, none⟩ (.int .i64 A)) s1 #[.int .i64 A, .int .i64 0, .int .i64 0, .int .i64 0, .int .i64 0, .int .i64 0, .int .i64 0, .int .i64 0, .int .i64 0, .int .i64 0, .int .i64 0, .int .i64 0]) := hide (h.set 0 (.int .i64 A))
  clear h C H0
  go_wp2_with fail
  generalize v0.setCell ⟨w.heap.size + 1 + 1, 0, none⟩ (.int .i64 A) = W1 at *
  clear c0 cf
  refine (dirWords_walk W1).mono ?_
  rintro e u1 ⟨rfl, hLn⟩
  have hx : w.heap.size + 1 < W1.heap.size := H1.out.phr.lt
  have C := hide (ru_named dirL W1.heap.size 3 rfl (by omega) hLn.1 hLn.2.1 (by omega) (H1.out.next hLn.2.2))
  clear hLn hx
  go_wp2_with fail
  refine C.out.mono ?_
  rintro e v1 ⟨rfl, h⟩
  generalize nmV dirL s1 = D at *
  rw [← EE.out.1] at h
  have c0 := h.rt.cell 1 (.int .i64 0) rfl
  have cf := h.rt.frozen
  have H2 : Hid (RRU w (v1.setCell ⟨w.heap.size + 1 + 1, 1, none⟩ (.int .i64 D)) s2 #[.int .i64 A, .int .i64 D, .int .i64 0, .int .i64 0, .int .i64 0, .int .i64 0, .int .i64 0, .int .i64 0, .int .i64 0, .int .i64 0, .int .i64 0, .int .i64 0]) := hide (h.set 1 (.int .i64 D))
  clear h C H1
  go_wp2_with fail
  generalize v1.setCell ⟨w.heap.size + 1 + 1, 1, none⟩ (.int .i64 D) = W2 at *
  clear c0 cf
  refine (protoWords_walk W2).mono ?_
  rintro e u2 ⟨rfl, hLn⟩
  have hx : w.heap.size + 1 < W2.heap.size := H2.out.phr.lt
  have C := hide (ru_named proL W2.heap.size 4 rfl (by omega) hLn.1 hLn.2.1 (by omega) (H2.out.next hLn.2.2))
  clear hLn hx
  go_wp2_with fail
  refine C.out.mono ?_
  rintro e v2 ⟨rfl, h⟩
  generalize nmV proL s2 = Q at *
  rw [← EE.out.2.1] at h
  have c0 := h.rt.cell 2 (.int .i64 0) rfl
  have cf := h.rt.frozen
  have H3 : Hid (RRU w (v2.setCell ⟨w.heap.size + 1 + 1, 2, none⟩ (.int .i64 Q)) s3 #[.int .i64 A, .int .i64 D, .int .i64 Q, .int .i64 0, .int .i64 0, .int .i64 0, .int .i64 0, .int .i64 0, .int .i64 0, .int .i64 0, .int .i64 0, .int .i64 0]) := hide (h.set 2 (.int .i64 Q))
  clear h C H2
  go_wp2_with fail
  generalize v2.setCell ⟨w.heap.size + 1 + 1, 2, none⟩ (.int .i64 Q) = W3 at *
  clear c0 cf
  have C := hide (ru_passes kFrom H3.out)
  refine C.out.mono ?_
  rintro e v3 ⟨rfl, h⟩
  have C2 := hide (ru_demand (psB kFrom s3.1 s3.2) h)
  clear h C H3
  go_wp2_with fail
  refine C2.out.mono ?_
  rintro e W4 ⟨rfl, h⟩
  have H4 : Hid (RRU w W4 s4 #[.int .i64 A, .int .i64 D, .int .i64 Q, .int .i64 0, .int .i64 0, .int .i64 0, .int .i64 0, .int .i64 0, .int .i64 0, .int .i64 0, .int .i64 0, .int .i64 0]) := hide (by rw [EE.out.2.2.1]; exact h)
  clear h C2
  go_wp2_with fail
  have C := hide (ru_any H4.out)
  refine C.out.mono ?_
  rintro e v4 ⟨rfl, h⟩
  generalize apA s4.1 s4.2 = sa at *
  generalize apB s4.1 s4.2 = sb at *
  rw [← EE.out.2.2.2.1] at h
  have c0 := h.rt.cell 3 (.int .i64 0) rfl
  have c1 := h.rt.cell 4 (.int .i64 0) rfl
  have cf := h.rt.frozen
  have H5 : Hid (RRU w ((v4.setCell ⟨w.heap.size + 1 + 1, 3, none⟩ (.int .i64 sa)).setCell ⟨w.heap.size + 1 + 1, 4, none⟩ (.int .i64 sb)) s5 #[.int .i64 A, .int .i64 D, .int .i64 Q, .int .i64 sa, .int .i64 sb, .int .i64 0, .int .i64 0, .int .i64 0, .int .i64 0, .int .i64 0, .int .i64 0, .int .i64 0]) := hide ((h.set 3 (.int .i64 sa)).set 4 (.int .i64 sb))
  clear h C H4
  go_wp2_with fail
  generalize (v4.setCell ⟨w.heap.size + 1 + 1, 3, none⟩ (.int .i64 sa)).setCell ⟨w.heap.size + 1 + 1, 4, none⟩ (.int .i64 sb) = W5 at *
  clear c0 c1 cf
  have C := hide (ru_ports H5.out)
  refine C.out.mono ?_
  rintro e v5 ⟨rfl, h⟩
  generalize tpL s5.1 s5.2 = sl at *
  generalize tpH s5.1 s5.2 = sh at *
  rw [← EE.out.2.2.2.2.1] at h
  have c0 := h.rt.cell 5 (.int .i64 0) rfl
  have c1 := h.rt.cell 6 (.int .i64 0) rfl
  have cf := h.rt.frozen
  have H6 : Hid (RRU w ((v5.setCell ⟨w.heap.size + 1 + 1, 5, none⟩ (.int .i64 sl)).setCell ⟨w.heap.size + 1 + 1, 6, none⟩ (.int .i64 sh)) s6 #[.int .i64 A, .int .i64 D, .int .i64 Q, .int .i64 sa, .int .i64 sb, .int .i64 sl, .int .i64 sh, .int .i64 0, .int .i64 0, .int .i64 0, .int .i64 0, .int .i64 0]) := hide ((h.set 5 (.int .i64 sl)).set 6 (.int .i64 sh))
  clear h C H5
  go_wp2_with fail
  generalize (v5.setCell ⟨w.heap.size + 1 + 1, 5, none⟩ (.int .i64 sl)).setCell ⟨w.heap.size + 1 + 1, 6, none⟩ (.int .i64 sh) = W6 at *
  clear c0 c1 cf
  have C := hide (ru_passes kTo H6.out)
  refine C.out.mono ?_
  rintro e v6 ⟨rfl, h⟩
  have C2 := hide (ru_demand (psB kTo s6.1 s6.2) h)
  clear h C H6
  go_wp2_with fail
  refine C2.out.mono ?_
  rintro e W7 ⟨rfl, h⟩
  have H7 : Hid (RRU w W7 s7 #[.int .i64 A, .int .i64 D, .int .i64 Q, .int .i64 sa, .int .i64 sb, .int .i64 sl, .int .i64 sh, .int .i64 0, .int .i64 0, .int .i64 0, .int .i64 0, .int .i64 0]) := hide (by rw [EE.out.2.2.2.2.2.1]; exact h)
  clear h C2
  go_wp2_with fail
  have C := hide (ru_any H7.out)
  refine C.out.mono ?_
  rintro e v7 ⟨rfl, h⟩
  generalize apA s7.1 s7.2 = da at *
  generalize apB s7.1 s7.2 = db at *
  rw [← EE.out.2.2.2.2.2.2.1] at h
  have c0 := h.rt.cell 7 (.int .i64 0) rfl
  have c1 := h.rt.cell 8 (.int .i64 0) rfl
  have cf := h.rt.frozen
  have H8 : Hid (RRU w ((v7.setCell ⟨w.heap.size + 1 + 1, 7, none⟩ (.int .i64 da)).setCell ⟨w.heap.size + 1 + 1, 8, none⟩ (.int .i64 db)) s8 #[.int .i64 A, .int .i64 D, .int .i64 Q, .int .i64 sa, .int .i64 sb, .int .i64 sl, .int .i64 sh, .int .i64 da, .int .i64 db, .int .i64 0, .int .i64 0, .int .i64 0]) := hide ((h.set 7 (.int .i64 da)).set 8 (.int .i64 db))
  clear h C H7
  go_wp2_with fail
  generalize (v7.setCell ⟨w.heap.size + 1 + 1, 7, none⟩ (.int .i64 da)).setCell ⟨w.heap.size + 1 + 1, 8, none⟩ (.int .i64 db) = W8 at *
  clear c0 c1 cf
  have C := hide (ru_ports H8.out)
  refine C.out.mono ?_
  rintro e v8 ⟨rfl, h⟩
  generalize tpL s8.1 s8.2 = dl at *
  generalize tpH s8.1 s8.2 = dh at *
  rw [← EE.out.2.2.2.2.2.2.2] at h
  have c0 := h.rt.cell 9 (.int .i64 0) rfl
  have c1 := h.rt.cell 10 (.int .i64 0) rfl
  have cf := h.rt.frozen
  have H9 : Hid (RRU w ((v8.setCell ⟨w.heap.size + 1 + 1, 9, none⟩ (.int .i64 dl)).setCell ⟨w.heap.size + 1 + 1, 10, none⟩ (.int .i64 dh)) s9 #[.int .i64 A, .int .i64 D, .int .i64 Q, .int .i64 sa, .int .i64 sb, .int .i64 sl, .int .i64 sh, .int .i64 da, .int .i64 db, .int .i64 dl, .int .i64 dh, .int .i64 0]) := hide ((h.set 9 (.int .i64 dl)).set 10 (.int .i64 dh))
  clear h C H8
  go_wp2_with fail
  generalize (v8.setCell ⟨w.heap.size + 1 + 1, 9, none⟩ (.int .i64 dl)).setCell ⟨w.heap.size + 1 + 1, 10, none⟩ (.int .i64 dh) = W9 at *
  clear c0 c1 cf
  have CI0 := hide (ru_isRead H9.out)
  cases hrd : rdB s9 with
  | true =>
    have HPP : Hid (PP = if ruOK A D Q sa sb sl sh da db dl dh 0 = true then some [A, D, Q, sa, sb, sl, sh, da, db, dl, dh, 0] else none) := hide (by rw [HPR.out]; unfold prE; rw [if_pos hrd]; rfl)
    have CI := hide (ru_isRead (H9.out.next ((Below.refl _ _).drew)))
    rw [hrd] at CI0 CI
    have CR := hide (fun W => validRule_walk A D Q sa sb sl sh da db dl dh 0 W)
    generalize ruOK A D Q sa sb sl sh da db dl dh 0 = bq at *
    clear hrd HPR EE E1
    refine CI0.out.mono ?_
    rintro e v9 ⟨rfl, hv9⟩
    rw [hv9]
    clear hv9 CI0
    go_upto_region 14 with fail
    have hL := H9.out.next ((Below.refl _ _).drew)
    have hK : LSr w W9.drew A D Q sa sb sl sh da db dl dh 0 := LSr.of hL.rt
    refine wp_region_lex (fun w' => LSr w w' A D Q sa sb sl sh da db dl dh 0) ((0, true) :: (1, true) :: (2, false) :: (3, true) :: (4, true) :: (5, false) :: (6, true) :: (7, false) :: (8, true) :: []) (by kernel_rfl) (by kernel_rfl) (by kernel_rfl) rfl hK ?_
    repeat (first
      | (refine wpLex_skip rfl (by rfl) (fun _ _ _ h => h) ?_; simp only [Act.put, List.setIfInBounds_toArray, List.set_cons_zero, List.set_cons_succ])
      | (refine wpLex_pass rfl (by rfl) hK ?_; simp only [Act.put, List.setIfInBounds_toArray, List.set_cons_zero, List.set_cons_succ])
      | (refine wpLex_take ?_ rfl (by rfl) (fun _ _ _ h => h) ?_ ?_; rotate_left; (intro wq hSw; (try dsimp only at hSw); first | (go_simp; done) | (go_simp; with_reducible rfl)); simp only [Act.put, List.setIfInBounds_toArray, List.set_cons_zero, List.set_cons_succ])
      | (refine wpLex_act rfl (by rfl) ?_; intro KK hKK; go_simp; (go_at_call 36; refine CI.out.mono ?_; clear CI; rintro e w9 ⟨rfl, hw9⟩; rw [hw9]; clear hw9); (try go_wp2_with fail); refine hKK.out _ _ hK ?_; clear hKK KK; try simp only [Act.put, List.setIfInBounds_toArray, List.set_cons_zero, List.set_cons_succ])
      | (refine wpLex_act rfl (by rfl) ?_; intro KK hKK; go_simp; (go_at_call 49; refine (CR.out _).mono ?_; clear CR; rintro e w9 ⟨rfl, hb9⟩; replace hL := hL.next hb9; have hK : LSr w w9 A D Q sa sb sl sh da db dl dh 0 := LSr.of hL.rt); (try go_wp2_with fail); refine hKK.out _ _ hK ?_; clear hKK KK; try simp only [Act.put, List.setIfInBounds_toArray, List.set_cons_zero, List.set_cons_succ])
      | (refine wpLex_act rfl (by rfl) ?_; intro KK hKK; have c0 := hL.box.cell 0 (.int .i64 0) rfl; have c1 := hL.box.cell 1 (.int .i64 0) rfl; have c2 := hL.box.cell 2 (.int .i64 0) rfl; have c3 := hL.box.cell 3 (.int .i64 0) rfl; have c4 := hL.box.cell 4 (.int .i64 0) rfl; have c5 := hL.box.cell 5 (.int .i64 0) rfl; have c6 := hL.box.cell 6 (.int .i64 0) rfl; have c7 := hL.box.cell 7 (.int .i64 0) rfl; have c8 := hL.box.cell 8 (.int .i64 0) rfl; have c9 := hL.box.cell 9 (.int .i64 0) rfl; have c10 := hL.box.cell 10 (.int .i64 0) rfl; have c11 := hL.box.cell 11 (.int .i64 0) rfl; have cf := hL.box.frozen; go_simp; refine hKK.out _ _ (LSr.of hL.hold_fin) ?_; clear hKK KK; try simp only [Act.put, List.setIfInBounds_toArray, List.set_cons_zero, List.set_cons_succ]))
    refine wpLex_nil ?_
    go_wp2_with fail
    exact bodyPost_ret (v := .tuple #[.agg #[.int .i64 A, .int .i64 D, .int .i64 Q, .int .i64 sa, .int .i64 sb, .int .i64 sl, .int .i64 sh, .int .i64 da, .int .i64 db, .int .i64 dl, .int .i64 dh, .int .i64 0], .bool bq]) (by simp [results, Try.results22, go_sem, c0, c1, c2, c3, c4, c5, c6, c7, c8, c9, c10, c11]) rfl ⟨A, D, Q, sa, sb, sl, sh, da, db, dl, dh, 0, bq, rfl, HPP.out, hL.fin⟩
  | false =>
    rw [hrd] at CI0
    have HPQ : Hid (PP = if rdB (nmS staL s9) = true then ruFin A D Q sa sb sl sh da db dl dh (nmV staL s9) else none) := hide (by rw [HPR.out]; unfold prE; rw [if_neg (by rw [hrd]; simp)])
    have E10 : Hid (nmS staL s9 = nmS staL s9) := hide rfl
    clear hrd HPR EE E1
    refine CI0.out.mono ?_
    rintro e v9 ⟨rfl, hv9⟩
    rw [hv9]
    clear hv9 CI0
    generalize hs10 : nmS staL s9 = s10 at *
    have ES := hide hs10
    clear hs10
    go_wp2_with fail
    refine (stateWords_walk W9).mono ?_
    rintro e u9 ⟨rfl, hLn⟩
    have hx : w.heap.size + 1 < W9.heap.size := H9.out.phr.lt
    have C := hide (ru_named staL W9.heap.size 4 rfl (by omega) hLn.1 hLn.2.1 (by omega) (H9.out.next hLn.2.2))
    clear hLn hx
    go_wp2_with fail
    refine C.out.mono ?_
    rintro e v9 ⟨rfl, h⟩
    generalize nmV staL s9 = S at *
    rw [ES.out] at h
    have c0 := h.rt.cell 11 (.int .i64 0) rfl
    have cf := h.rt.frozen
    have H10 : Hid (RRU w (v9.setCell ⟨w.heap.size + 1 + 1, 11, none⟩ (.int .i64 S)) s10 #[.int .i64 A, .int .i64 D, .int .i64 Q, .int .i64 sa, .int .i64 sb, .int .i64 sl, .int .i64 sh, .int .i64 da, .int .i64 db, .int .i64 dl, .int .i64 dh, .int .i64 S]) := hide (h.set 11 (.int .i64 S))
    clear h C H9
    go_upto_region 14 with fail
    generalize v9.setCell ⟨w.heap.size + 1 + 1, 11, none⟩ (.int .i64 S) = W10 at *
    clear c0 cf
    cases hrd : rdB s10 with
    | true =>
      have HPP : Hid (PP = if ruOK A D Q sa sb sl sh da db dl dh S = true then some [A, D, Q, sa, sb, sl, sh, da, db, dl, dh, S] else none) := hide (by rw [HPQ.out, if_pos hrd]; rfl)
      have CI := hide (ru_isRead (H10.out.next ((Below.refl _ _).drew)))
      rw [hrd] at CI
      have CR := hide (fun W => validRule_walk A D Q sa sb sl sh da db dl dh S W)
      generalize ruOK A D Q sa sb sl sh da db dl dh S = bq at *
      clear hrd HPQ
      have hL := H10.out.next ((Below.refl _ _).drew)
      have hK : LSr w W10.drew A D Q sa sb sl sh da db dl dh S := LSr.of hL.rt
      refine wp_region_lex (fun w' => LSr w w' A D Q sa sb sl sh da db dl dh S) ((0, true) :: (1, true) :: (2, false) :: (3, true) :: (4, true) :: (5, false) :: (6, true) :: (7, false) :: (8, true) :: []) (by kernel_rfl) (by kernel_rfl) (by kernel_rfl) rfl hK ?_
      repeat (first
        | (refine wpLex_skip rfl (by rfl) (fun _ _ _ h => h) ?_; simp only [Act.put, List.setIfInBounds_toArray, List.set_cons_zero, List.set_cons_succ])
        | (refine wpLex_pass rfl (by rfl) hK ?_; simp only [Act.put, List.setIfInBounds_toArray, List.set_cons_zero, List.set_cons_succ])
        | (refine wpLex_take ?_ rfl (by rfl) (fun _ _ _ h => h) ?_ ?_; rotate_left; (intro wq hSw; (try dsimp only at hSw); first | (go_simp; done) | (go_simp; with_reducible rfl)); simp only [Act.put, List.setIfInBounds_toArray, List.set_cons_zero, List.set_cons_succ])
        | (refine wpLex_act rfl (by rfl) ?_; intro KK hKK; go_simp; (go_at_call 36; refine CI.out.mono ?_; clear CI; rintro e w9 ⟨rfl, hw9⟩; rw [hw9]; clear hw9); (try go_wp2_with fail); refine hKK.out _ _ hK ?_; clear hKK KK; try simp only [Act.put, List.setIfInBounds_toArray, List.set_cons_zero, List.set_cons_succ])
        | (refine wpLex_act rfl (by rfl) ?_; intro KK hKK; go_simp; (go_at_call 49; refine (CR.out _).mono ?_; clear CR; rintro e w9 ⟨rfl, hb9⟩; replace hL := hL.next hb9; have hK : LSr w w9 A D Q sa sb sl sh da db dl dh S := LSr.of hL.rt); (try go_wp2_with fail); refine hKK.out _ _ hK ?_; clear hKK KK; try simp only [Act.put, List.setIfInBounds_toArray, List.set_cons_zero, List.set_cons_succ])
        | (refine wpLex_act rfl (by rfl) ?_; intro KK hKK; have c0 := hL.box.cell 0 (.int .i64 0) rfl; have c1 := hL.box.cell 1 (.int .i64 0) rfl; have c2 := hL.box.cell 2 (.int .i64 0) rfl; have c3 := hL.box.cell 3 (.int .i64 0) rfl; have c4 := hL.box.cell 4 (.int .i64 0) rfl; have c5 := hL.box.cell 5 (.int .i64 0) rfl; have c6 := hL.box.cell 6 (.int .i64 0) rfl; have c7 := hL.box.cell 7 (.int .i64 0) rfl; have c8 := hL.box.cell 8 (.int .i64 0) rfl; have c9 := hL.box.cell 9 (.int .i64 0) rfl; have c10 := hL.box.cell 10 (.int .i64 0) rfl; have c11 := hL.box.cell 11 (.int .i64 0) rfl; have cf := hL.box.frozen; go_simp; refine hKK.out _ _ (LSr.of hL.hold_fin) ?_; clear hKK KK; try simp only [Act.put, List.setIfInBounds_toArray, List.set_cons_zero, List.set_cons_succ]))
      refine wpLex_nil ?_
      go_wp2_with fail
      exact bodyPost_ret (v := .tuple #[.agg #[.int .i64 A, .int .i64 D, .int .i64 Q, .int .i64 sa, .int .i64 sb, .int .i64 sl, .int .i64 sh, .int .i64 da, .int .i64 db, .int .i64 dl, .int .i64 dh, .int .i64 S], .bool bq]) (by simp [results, Try.results22, go_sem, c0, c1, c2, c3, c4, c5, c6, c7, c8, c9, c10, c11]) rfl ⟨A, D, Q, sa, sb, sl, sh, da, db, dl, dh, S, bq, rfl, HPP.out, hL.fin⟩
    | false =>
      have HPP : Hid (PP = if false = true then some [A, D, Q, sa, sb, sl, sh, da, db, dl, dh, S] else none) := hide (by rw [HPQ.out, if_neg (by rw [hrd]; simp)]; rfl)
      have CI := hide (ru_isRead (H10.out.next ((Below.refl _ _).drew)))
      rw [hrd] at CI
      clear hrd HPQ
      have hL := H10.out.next ((Below.refl _ _).drew)
      have hK : LSr w W10.drew A D Q sa sb sl sh da db dl dh S := LSr.of hL.rt
      refine wp_region_lex (fun w' => LSr w w' A D Q sa sb sl sh da db dl dh S) ((0, true) :: (1, true) :: (2, false) :: (3, true) :: (4, true) :: (5, false) :: (6, true) :: (7, false) :: (8, true) :: []) (by kernel_rfl) (by kernel_rfl) (by kernel_rfl) rfl hK ?_
      repeat (first
        | (refine wpLex_skip rfl (by rfl) (fun _ _ _ h => h) ?_; simp only [Act.put, List.setIfInBounds_toArray, List.set_cons_zero, List.set_cons_succ])
        | (refine wpLex_pass rfl (by rfl) hK ?_; simp only [Act.put, List.setIfInBounds_toArray, List.set_cons_zero, List.set_cons_succ])
        | (refine wpLex_take ?_ rfl (by rfl) (fun _ _ _ h => h) ?_ ?_; rotate_left; (intro wq hSw; (try dsimp only at hSw); first | (go_simp; done) | (go_simp; with_reducible rfl)); simp only [Act.put, List.setIfInBounds_toArray, List.set_cons_zero, List.set_cons_succ])
        | (refine wpLex_act rfl (by rfl) ?_; intro KK hKK; go_simp; (go_at_call 36; refine CI.out.mono ?_; clear CI; rintro e w9 ⟨rfl, hw9⟩; rw [hw9]; clear hw9); (try go_wp2_with fail); refine hKK.out _ _ hK ?_; clear hKK KK; try simp only [Act.put, List.setIfInBounds_toArray, List.set_cons_zero, List.set_cons_succ])
        | (refine wpLex_act rfl (by rfl) ?_; intro KK hKK; have c0 := H10.out.box.cell 0 (.int .i64 0) rfl; have c1 := H10.out.box.cell 1 (.int .i64 0) rfl; have c2 := H10.out.box.cell 2 (.int .i64 0) rfl; have c3 := H10.out.box.cell 3 (.int .i64 0) rfl; have c4 := H10.out.box.cell 4 (.int .i64 0) rfl; have c5 := H10.out.box.cell 5 (.int .i64 0) rfl; have c6 := H10.out.box.cell 6 (.int .i64 0) rfl; have c7 := H10.out.box.cell 7 (.int .i64 0) rfl; have c8 := H10.out.box.cell 8 (.int .i64 0) rfl; have c9 := H10.out.box.cell 9 (.int .i64 0) rfl; have c10 := H10.out.box.cell 10 (.int .i64 0) rfl; have c11 := H10.out.box.cell 11 (.int .i64 0) rfl; have cf := H10.out.box.frozen; go_simp; refine hKK.out _ _ (LSr.of (HoldV.drewu H10.out.hold_fin)) ?_; clear hKK KK; try simp only [Act.put, List.setIfInBounds_toArray, List.set_cons_zero, List.set_cons_succ]))
      refine wpLex_nil ?_
      go_wp2_with fail
      exact bodyPost_ret (v := .tuple #[.agg #[.int .i64 A, .int .i64 D, .int .i64 Q, .int .i64 sa, .int .i64 sb, .int .i64 sl, .int .i64 sh, .int .i64 da, .int .i64 db, .int .i64 dl, .int .i64 dh, .int .i64 S], .bool false]) (by simp [results, Try.results22, go_sem, c0, c1, c2, c3, c4, c5, c6, c7, c8, c9, c10, c11]) rfl ⟨A, D, Q, sa, sb, sl, sh, da, db, dl, dh, S, false, rfl, HPP.out, H10.out.fin.drew⟩
end Go.Proofs.Ytgegnkboibgbgaa
