/-
Contracts of functions of this seat.
-/
import Derived.Test.YtakoagfeiolkjaaDoorRows
import Derived.WalkKit
import Derived.ProofKit
import Derived.OpenShut
import Derived.Test.YtakoagfeiolkjaaDoorIpd
namespace Go.Proofs.YtakoagfeiolkjaaDoor
open Go.ChangeShapes Go.WideShapes Go.ChangeAt Go.RowKit
set_option linter.unusedVariables false
set_option maxRecDepth 100000
theorem bit_ne (q k : Int) (hk : 0 < k) : (q % 2 * k != 0) = decide (q % 2 = 1) := by
  have h2 : q % 2 = 0 ∨ q % 2 = 1 := by omega
  rcases h2 with h | h
  · rw [h]; simp
  · rw [h]; simp; omega
set_option maxHeartbeats 16000000 in
theorem specDecIP_mid (b off n cap : Nat) (zs : List Int) (w : World) (hn : zs.length = n) (ha : Arr w (some ⟨b, off, none⟩) zs) (hm : n ≤ 1048576) (hc : n ≤ cap) (h : rhC zs = 0) :
    Calls Tryd.prog 17 #[.slice (some ⟨b, off, none⟩) n cap] w fun e w' =>
      (dpC zs ≠ 0 ∧ e = .returned (.tuple #[.agg #[.int .i64 0, .int .i64 0, .bool false, .bool false, .int .i64 0, .int .i64 0, .int .i64 0, .int .i64 0, .int .i64 0, .slice none 0 0, .slice none 0 0], .int .i64 (dpC zs)]) ∧ Below w.heap.size w w') ∨
      (dpC zs = 0 ∧ ∃ v0 v1 : Value, e = .returned (.tuple #[.agg #[.int .i64 (zs.getD 1 0), .int .i64 (tnum ((zs.drop 4).take 2)), .bool (decide (dpF zs / 16384 % 2 = 1)), .bool (decide (dpF zs / 8192 % 2 = 1)), .int .i64 (dpF zs % 8192 * 8), .int .i64 (zs.getD 8 0), .int .i64 (zs.getD 9 0), .int .i64 (tnum ((zs.drop 12).take 4)), .int .i64 (tnum ((zs.drop 16).take 4)), v0, v1], .int .i64 0]) ∧ OwnB w' w.heap.size v0 ((zs.drop 20).take ((ihl zs).toNat - 20)) ∧ OwnB w' w.heap.size v1 ((zs.drop (ihl zs).toNat).take ((dpW zs).toNat - (ihl zs).toNat)) ∧ (∀ b, v0.ownBlock = some b → v1.ownBlock ≠ some b) ∧ Below w.heap.size w w') := by
  have HR := hide (ResP.start w)
  have hI : 20 ≤ ihl zs ∧ ihl zs ≤ 60 ∧ ihl zs ≤ n := by
    unfold rhC at h
    have hz := getD_bd ha.1 0
    split at h
    · cases h
    · split at h
      · cases h
      · split at h
        · cases h
        · rename_i h1 h2 h3
          have : ihl zs = zs.getD 0 0 % 16 * 4 := rfl
          omega
  have hC : dpC zs = if dpW zs < ihl zs ∨ (n : Int) < dpW zs then 5 else if 32768 ≤ dpF zs ∨ 65535 < dpF zs % 8192 * 8 + (dpW zs - ihl zs) then 1 else 0 := by unfold dpC; rw [h, if_neg (by decide), hn]
  obtain ⟨sz, hsz⟩ : ∃ sz : Nat, ihl zs = (sz : Int) := ⟨(ihl zs).toNat, by omega⟩
  rw [hsz] at hI hC
  rw [hsz, Int.toNat_natCast]
  have CR := hide (fun W (hb : Below w.heap.size w W) => by have q := readHead_any (some ⟨b, off, none⟩) n cap zs W hn (ha.below hb (Nat.le_refl _)) hm hc; rw [show rhN zs = (sz : Int) by unfold rhN; rw [h, if_pos rfl, hsz], h] at q; exact q)
  have N0 := hide (fun W (hb : Below w.heap.size w W) => l03Num_walk (some ⟨b, off + 2, none⟩) 2 (cap - 2) ((zs.drop 2).take 2) W (by rw [List.length_take, List.length_drop]; omega) (((ha.below hb (Nat.le_refl _)).drop 2).take 2) (by omega))
  have s0 : ∀ w : World, (Instr.slice 22 (.slice (some ⟨b, off, none⟩) n cap) (some (.int .i64 2)) (some (.int .i64 4)) none).run Tryd.prog w = .ok (.slice (some ⟨b, off + 2, none⟩) 2 (cap - 2)) w := sl_part b off n cap 2 4 (by omega) (by omega) (by omega)
  have N1 := hide (fun W (hb : Below w.heap.size w W) => l03Num_walk (some ⟨b, off + 6, none⟩) 2 (cap - 6) ((zs.drop 6).take 2) W (by rw [List.length_take, List.length_drop]; omega) (((ha.below hb (Nat.le_refl _)).drop 6).take 2) (by omega))
  have s1 : ∀ w : World, (Instr.slice 22 (.slice (some ⟨b, off, none⟩) n cap) (some (.int .i64 6)) (some (.int .i64 8)) none).run Tryd.prog w = .ok (.slice (some ⟨b, off + 6, none⟩) 2 (cap - 6)) w := sl_part b off n cap 6 8 (by omega) (by omega) (by omega)
  have N2 := hide (fun W (hb : Below w.heap.size w W) => l03Num_walk (some ⟨b, off + 4, none⟩) 2 (cap - 4) ((zs.drop 4).take 2) W (by rw [List.length_take, List.length_drop]; omega) (((ha.below hb (Nat.le_refl _)).drop 4).take 2) (by omega))
  have s2 : ∀ w : World, (Instr.slice 22 (.slice (some ⟨b, off, none⟩) n cap) (some (.int .i64 4)) (some (.int .i64 6)) none).run Tryd.prog w = .ok (.slice (some ⟨b, off + 4, none⟩) 2 (cap - 4)) w := sl_part b off n cap 4 6 (by omega) (by omega) (by omega)
  have N3 := hide (fun W (hb : Below w.heap.size w W) => l03Num_walk (some ⟨b, off + 12, none⟩) 4 (cap - 12) ((zs.drop 12).take 4) W (by rw [List.length_take, List.length_drop]; omega) (((ha.below hb (Nat.le_refl _)).drop 12).take 4) (by omega))
  have s3 : ∀ w : World, (Instr.slice 22 (.slice (some ⟨b, off, none⟩) n cap) (some (.int .i64 12)) (some (.int .i64 16)) none).run Tryd.prog w = .ok (.slice (some ⟨b, off + 12, none⟩) 4 (cap - 12)) w := sl_part b off n cap 12 16 (by omega) (by omega) (by omega)
  have N4 := hide (fun W (hb : Below w.heap.size w W) => l03Num_walk (some ⟨b, off + 16, none⟩) 4 (cap - 16) ((zs.drop 16).take 4) W (by rw [List.length_take, List.length_drop]; omega) (((ha.below hb (Nat.le_refl _)).drop 16).take 4) (by omega))
  have s4 : ∀ w : World, (Instr.slice 22 (.slice (some ⟨b, off, none⟩) n cap) (some (.int .i64 16)) (some (.int .i64 20)) none).run Tryd.prog w = .ok (.slice (some ⟨b, off + 16, none⟩) 4 (cap - 16)) w := sl_part b off n cap 16 20 (by omega) (by omega) (by omega)
  obtain ⟨b', o', eb, hblt, q1⟩ := ha.2 1 (by omega)
  cases eb
  obtain ⟨b', o', eb, _, q8⟩ := ha.2 8 (by omega)
  cases eb
  obtain ⟨b', o', eb, _, q9⟩ := ha.2 9 (by omega)
  cases eb
  have y1 := getD_bd ha.1 1
  have y8 := getD_bd ha.1 8
  have y9 := getD_bd ha.1 9
  have hW := tnum_bd (zs.drop 2) (fun z h => ha.1 z (List.mem_of_mem_drop h)) 2 (by rw [List.length_drop]; omega)
  have hF := tnum_bd (zs.drop 6) (fun z h => ha.1 z (List.mem_of_mem_drop h)) 2 (by rw [List.length_drop]; omega)
  have HWd : Hid (dpW zs = tnum ((zs.drop 2).take 2)) := hide rfl
  have HFd : Hid (dpF zs = tnum ((zs.drop 6).take 2)) := hide rfl
  rw [← HWd.out] at N0 hW
  rw [← HFd.out] at N1 hF
  clear HWd HFd h
  generalize dpC zs = DC at *
  generalize dpW zs = wh at *
  generalize dpF zs = fl at *
  generalize zs.getD 1 0 = t1 at *
  generalize zs.getD 8 0 = t8 at *
  generalize zs.getD 9 0 = t9 at *
  obtain ⟨i0, i1, i2⟩ := hI
  obtain ⟨w0, w1⟩ := hW
  obtain ⟨f0, f1⟩ := hF
  have w2 : wh ≤ 65535 := by omega
  have f2 : fl ≤ 65535 := by omega
  clear w1 f1
  by_cases hbad : wh < (sz : Int) ∨ (n : Int) < wh
  · rw [if_pos hbad] at hC
    subst hC
    clear N1 N2 N3 N4 s1 s2 s3 s4 q1 q8 q9 ha hn y1 y8 y9
    by_cases hbad1 : wh < (sz : Int)
    · go_enter Tryd.func17, Tryd.ntmps17
      go_wp2_with fail
      refine (CR.out _ HR.out.1).mono ?_
      rintro e w1 ⟨rfl, hw1⟩
      rw [hw1]
      clear hw1 CR
      have HB := hide HR.out.1
      go_wp2_with fail
      refine (N0.out _ HB.out).mono ?_
      rintro e w1 ⟨rfl, hw1⟩
      rw [hw1]
      clear hw1 N0
      go_wp2_with fail
      exact bodyPost_ret (v := .tuple #[.agg #[.int .i64 0, .int .i64 0, .bool false, .bool false, .int .i64 0, .int .i64 0, .int .i64 0, .int .i64 0, .int .i64 0, .slice none 0 0, .slice none 0 0], .int .i64 5]) (by simp [results, Tryd.results17, go_sem]) rfl (.inl ⟨by decide, rfl, HB.out⟩)
    · have hbad2 : (n : Int) < wh := by omega
      go_enter Tryd.func17, Tryd.ntmps17
      go_wp2_with fail
      refine (CR.out _ HR.out.1).mono ?_
      rintro e w1 ⟨rfl, hw1⟩
      rw [hw1]
      clear hw1 CR
      have HB := hide HR.out.1
      go_wp2_with fail
      refine (N0.out _ HB.out).mono ?_
      rintro e w1 ⟨rfl, hw1⟩
      rw [hw1]
      clear hw1 N0
      go_wp2_with fail
      exact bodyPost_ret (v := .tuple #[.agg #[.int .i64 0, .int .i64 0, .bool false, .bool false, .int .i64 0, .int .i64 0, .int .i64 0, .int .i64 0, .int .i64 0, .slice none 0 0, .slice none 0 0], .int .i64 5]) (by simp [results, Tryd.results17, go_sem]) rfl (.inl ⟨by decide, rfl, HB.out⟩)
  · rw [if_neg hbad] at hC
    obtain ⟨wn, hwn⟩ : ∃ k : Nat, wh = (k : Int) := ⟨wh.toNat, by omega⟩
    subst hwn
    rw [Int.toNat_natCast]
    have hb1 : (sz : Int) ≤ (wn : Int) := by omega
    have hb2 : (wn : Int) ≤ (n : Int) := by omega
    clear hbad
    obtain ⟨aO, s5, hO5⟩ := sl_any b off n cap 20 sz (by omega) (by omega)
    obtain ⟨aP, s6, hP6⟩ := sl_any b off n cap sz wn (by omega) (by omega)
    have K5 := hide (fun W (hb : Below w.heap.size w W) => l01Copy_walk aO (sz - 20) (cap - 20) ((zs.drop 20).take (sz - 20)) W (by rw [List.length_take, List.length_drop]; omega) (arr_any (ha.below hb (Nat.le_refl _)) hO5 (by omega)) (by omega))
    have K6 := hide (fun W (hb : Below w.heap.size w W) => l01Copy_walk aP (wn - sz) (cap - sz) ((zs.drop sz).take (wn - sz)) W (by rw [List.length_take, List.length_drop]; omega) (arr_any (ha.below hb (Nat.le_refl _)) hP6 (by omega)) (by omega))
    have HLO : Hid (((zs.drop 20).take (sz - 20)).length = sz - 20) := hide (by rw [List.length_take, List.length_drop]; omega)
    have HLP : Hid (((zs.drop sz).take (wn - sz)).length = wn - sz) := hide (by rw [List.length_take, List.length_drop]; omega)
    rw [show ((20 : Nat) : Int) = 20 from rfl] at s5
    generalize (zs.drop 20).take (sz - 20) = LO at *
    generalize (zs.drop sz).take (wn - sz) = LP at *
    generalize tnum ((zs.drop 4).take 2) = t4 at *
    generalize tnum ((zs.drop 12).take 4) = t12 at *
    generalize tnum ((zs.drop 16).take 4) = t16 at *
    have b1 := and_16384 fl f0 f2
    have b2 := and_8192 fl f0 f2
    have b3 := and_32768 fl f0 f2
    clear ha hn hO5 hP6
    go_enter Tryd.func17, Tryd.ntmps17
    go_wp2_with fail
    refine (CR.out _ HR.out.1).mono ?_
    rintro e w1 ⟨rfl, hw1⟩
    rw [hw1]
    clear hw1 CR
    have HB := hide HR.out.1
    have HS0 := hide HR.out.2.1
    go_wp2_with fail
    refine (N0.out _ HB.out).mono ?_
    rintro e w1 ⟨rfl, hw1⟩
    rw [hw1]
    clear hw1 N0
    go_wp2_with fail
    refine (N1.out _ HB.out).mono ?_
    rintro e w1 ⟨rfl, hw1⟩
    rw [hw1]
    clear hw1 N1
    go_wp2_with fail
    obtain ⟨d1, hd1⟩ : ∃ d : Int, d = fl / 16384 % 2 * 16384 := ⟨_, rfl⟩
    obtain ⟨d2, hd2⟩ : ∃ d : Int, d = fl / 8192 % 2 * 8192 := ⟨_, rfl⟩
    obtain ⟨d3, hd3⟩ : ∃ d : Int, d = fl % 8192 * 8 := ⟨_, rfl⟩
    rw [← hd1] at b1
    rw [← hd2] at b2
    have r1 : fl.tmod 8192 = fl % 8192 := Int.tmod_eq_emod_of_nonneg f0
    have r2 : IntKind.i64.wrap (fl % 8192) = fl % 8192 := wrap_i64' _ (by omega) (by omega)
    have r3 : IntKind.i64.wrap (fl % 8192 * 8) = d3 := by rw [hd3]; exact wrap_i64' _ (by omega) (by omega)
    have HD1 := hide hd1
    have HD2 := hide hd2
    have HD3 := hide hd3
    have HS : Hid (Below w.heap.size w (w.alloc (.cells #[.int .i64 0, .int .i64 0, .bool false, .bool false, .int .i64 0, .int .i64 0, .int .i64 0, .int .i64 0, .int .i64 0, .slice none 0 0, .slice none 0 0] 39))) := HB
    have l1 : (1 : Int) < (n : Int) := by omega
    have l8 : (8 : Int) < (n : Int) := by omega
    have l9 : (9 : Int) < (n : Int) := by omega
    have r4 : IntKind.i64.wrap t1 = t1 := wrap_i64' _ y1.1 (by have := y1.2; omega)
    have r5 : IntKind.i64.wrap t8 = t8 := wrap_i64' _ y8.1 (by have := y8.2; omega)
    have r6 : IntKind.i64.wrap t9 = t9 := wrap_i64' _ y9.1 (by have := y9.2; omega)
    clear hd1 hd2 hd3 b3 s0 s1
    generalize hWW : w.alloc (.cells #[.int .i64 0, .int .i64 0, .bool false, .bool false, .int .i64 0, .int .i64 0, .int .i64 0, .int .i64 0, .int .i64 0, .slice none 0 0, .slice none 0 0] 39) = W at *
    clear hWW
    generalize off + 4 = o4 at *
    generalize off + 12 = o12 at *
    generalize off + 16 = o16 at *
    generalize cap - 4 = c4 at *
    generalize cap - 12 = c12 at *
    generalize cap - 16 = c16 at *
    generalize cap - 20 = c20 at *
    generalize cap - sz = csz at *
    have HRD : Hid (ResP w W.drew) := hide (BoxRow.next HR.out ((Below.refl _ _).drew))
    go_cut [8] from 34 to 73 (fun s8 wx => ∃ g ao co ap cp, s8 = .pointer (some ⟨g, 0, none⟩) ∧ Hid (PkS w wx g t1 t4 (d1 != 0) (d2 != 0) d3 t8 t9 t12 t16 LO LP ao LO.length co ap LP.length cp))
    case first =>
      go_region_held3 (fun w' => InP w w' b off t1 t8 t9) (with_reducible (first | assumption | exact InP.next (by assumption) (by assumption) | exact InP.start HS.out HS0.out hblt q1 q8 q9 | exact InP.startA HS.out HS0.out hblt q1 q8 q9 _ | exact InP.alloc (by assumption) _ | exact InP.realloc (by assumption) _ | exact InP.eleven (by assumption) hszG))
        (first
          | (go_at_call_of 23 (Value.slice (some ⟨b, o4, none⟩) 2 c4); refine (N2.out _ (by assumption : InP w _ b off t1 t8 t9).1).mono ?_; rintro r w' ⟨rfl, rfl⟩)
          | (go_at_call_of 23 (Value.slice (some ⟨b, o12, none⟩) 4 c12); refine (N3.out _ (by assumption : InP w _ b off t1 t8 t9).1).mono ?_; rintro r w' ⟨rfl, rfl⟩)
          | (go_at_call_of 23 (Value.slice (some ⟨b, o16, none⟩) 4 c16); refine (N4.out _ (by assumption : InP w _ b off t1 t8 t9).1).mono ?_; rintro r w' ⟨rfl, rfl⟩)
          | (go_at_call 28; have hOO' := hOO; clear hOO'; refine (K6.out _ (by assumption : InP w _ b off t1 t8 t9).1).mono ?_; rintro r w' ⟨vP, rfl, hOP, hbP⟩; obtain ⟨ap, cp, rfl, hap⟩ := own_slice hOP; (first | (with_reducible have hszG := InP.le_alloc (by assumption : InP w (World.alloc _ _) b off t1 t8 t9); have hG := alloc_kept hbP) | (with_reducible have hG := alloc_kept_d hbP; have hszG := HS.out.size) | (have hG := row_kept hG hbP) | skip); (first | (have hG2 := cellsP hG; obtain ⟨_, _, _, _, _, _, _, _, _, _, _, _⟩ := hG2) | skip))
          | (go_at_call 28; refine (K5.out _ (by assumption : InP w _ b off t1 t8 t9).1).mono ?_; rintro r w' ⟨vO, rfl, hOO, hbO⟩; obtain ⟨ao, co, rfl, hao⟩ := own_slice hOO; (first | (with_reducible have hszG := InP.le_alloc (by assumption : InP w (World.alloc _ _) b off t1 t8 t9); have hG := alloc_kept hbO) | (with_reducible have hG := alloc_kept_d hbO; have hszG := HS.out.size) | (have hG := row_kept hG hbO) | skip); (first | (have hG2 := cellsP hG; obtain ⟨_, _, _, _, _, _, _, _, _, _, _, _⟩ := hG2) | skip)))
      all_goals (go_wp2_with fail; go_meet; refine ⟨_, ao, co, ap, cp, rfl, hide ?_⟩; first | with_reducible exact PkS.last HRD.out hOO hbO hOP hbP | with_reducible exact PkS.mid HRD.out hOO hbO hOP hbP rfl | with_reducible exact PkS.first HR.out hOO hbO hOP hbP rfl)
    case rest =>
      obtain ⟨g, ao, co, ap, cp, rfl, HP⟩ := hcut
      have b3 := and_32768 fl f0 f2
      obtain ⟨hr, hrow, hgw, ho, hp, hap⟩ := HP.out
      obtain ⟨p0, p1, p2, p3, p4, p5, p6, p7, p8, p9, p10, pf⟩ := cellsP hrow
      obtain ⟨z0, z1, z2, z3, z4, z5, z6, z7, z8, z9, z10, zf⟩ := cellsP hr.2.2
      have HRX := hide hr
      have HOX := hide ho
      have HPX := hide hp
      have HAX := hide hap
      have hlp : ((LP.length : Nat) : Int) = (wn : Int) - (sz : Int) := by rw [HLP.out]; omega
      have HLPI := hide hlp
      have hd3b : 0 ≤ d3 ∧ d3 ≤ 65528 := by rw [HD3.out]; omega
      obtain ⟨y0, y3⟩ := hd3b
      have hlpb : (LP.length : Int) ≤ 65535 := by omega
      clear hr hrow ho hp hap HP hlp N2 N3 N4 K5 K6 s2 s3 s4 s5 s6 HRD HR HS HS0 r1 r2 r3 r4 r5 r6 b1 b2
      clear q1 q8 q9 y1 y8 y9 hblt hsz
      by_cases hf : fl / 32768 = 1
      · have hDC : DC = 1 := by rw [hC, if_pos (.inl (by omega))]
        clear hC
        subst hDC
        have hq : (fl / 32768 * 32768 == 0) = false := by rw [hf]; rfl
        clear hf
        generalize fl / 32768 * 32768 = d4 at *
        have hq2 : (d4 != 0) = true := by rw [bne, hq]; rfl
        clear f0 f2 i0 i1 i2 w0 w2 hb1 hb2 p0 p1 p2 p3 p5 p6 p7 p8 p9
        go_wp2_with fail
        first | exact bodyPost_ret (v := .tuple #[.agg #[.int .i64 0, .int .i64 0, .bool false, .bool false, .int .i64 0, .int .i64 0, .int .i64 0, .int .i64 0, .int .i64 0, .slice none 0 0, .slice none 0 0], .int .i64 1]) (by simp [results, Tryd.results17, go_sem, z0, z1, z2, z3, z4, z5, z6, z7, z8, z9, z10]) rfl (.inl ⟨by decide, rfl, below_11 HRX.out.1⟩) | exact bodyPost_ret (v := .tuple #[.agg #[.int .i64 0, .int .i64 0, .bool false, .bool false, .int .i64 0, .int .i64 0, .int .i64 0, .int .i64 0, .int .i64 0, .slice none 0 0, .slice none 0 0], .int .i64 1]) (by simp [results, Tryd.results17, go_sem, z0, z1, z2, z3, z4, z5, z6, z7, z8, z9, z10]) rfl ⟨rfl, below_11 HRX.out.1⟩
      · have hf0 : fl / 32768 = 0 := by omega
        have hq : (fl / 32768 * 32768 == 0) = true := by rw [hf0]; rfl
        have hfl : ¬ 32768 ≤ fl := by omega
        clear hf hf0
        generalize fl / 32768 * 32768 = d4 at *
        have hq2 : (d4 != 0) = false := by rw [bne, hq]; rfl
        by_cases hs : 65535 < d3 + (LP.length : Int)
        · have hDC : DC = 1 := by rw [hC, if_pos (.inr (by rw [← HD3.out, ← HLPI.out]; exact hs))]
          clear hC
          subst hDC
          clear f0 f2 i0 i1 i2 w0 w2 hb1 hb2 p0 p1 p2 p3 p5 p6 p7 p8 p9
          go_wp2_with fail
          first | exact bodyPost_ret (v := .tuple #[.agg #[.int .i64 0, .int .i64 0, .bool false, .bool false, .int .i64 0, .int .i64 0, .int .i64 0, .int .i64 0, .int .i64 0, .slice none 0 0, .slice none 0 0], .int .i64 1]) (by simp [results, Tryd.results17, go_sem, z0, z1, z2, z3, z4, z5, z6, z7, z8, z9, z10]) rfl (.inl ⟨by decide, rfl, below_11 HRX.out.1⟩) | exact bodyPost_ret (v := .tuple #[.agg #[.int .i64 0, .int .i64 0, .bool false, .bool false, .int .i64 0, .int .i64 0, .int .i64 0, .int .i64 0, .int .i64 0, .slice none 0 0, .slice none 0 0], .int .i64 1]) (by simp [results, Tryd.results17, go_sem, z0, z1, z2, z3, z4, z5, z6, z7, z8, z9, z10]) rfl ⟨rfl, below_11 HRX.out.1⟩
        · have hDC : DC = 0 := by rw [hC, if_neg (by rw [← HD3.out, ← HLPI.out]; omega)]
          clear hC
          subst hDC
          clear f0 f2 i0 i1 i2 w0 w2 hb1 hb2
          go_wp2_with fail
          first | exact bodyPost_ret (v := .tuple #[.agg #[.int .i64 t1, .int .i64 t4, .bool (d1 != 0), .bool (d2 != 0), .int .i64 d3, .int .i64 t8, .int .i64 t9, .int .i64 t12, .int .i64 t16, .slice ao LO.length co, .slice ap LP.length cp], .int .i64 0]) (by simp [results, Tryd.results17, go_sem, z0, z1, z2, z3, z4, z5, z6, z7, z8, z9, z10]) rfl (.inr ⟨rfl, .slice ao LO.length co, .slice ap LP.length cp, by rw [HD1.out, HD2.out, HD3.out, bit_ne _ 16384 (by decide), bit_ne _ 8192 (by decide)], own_11 HOX.out, own_11 HPX.out, HAX.out, below_11 HRX.out.1⟩) | exact bodyPost_ret (v := .tuple #[.agg #[.int .i64 t1, .int .i64 t4, .bool (d1 != 0), .bool (d2 != 0), .int .i64 d3, .int .i64 t8, .int .i64 t9, .int .i64 t12, .int .i64 t16, .slice ao LO.length co, .slice ap LP.length cp], .int .i64 0]) (by simp [results, Tryd.results17, go_sem, z0, z1, z2, z3, z4, z5, z6, z7, z8, z9, z10]) rfl ⟨.slice ao LO.length co, .slice ap LP.length cp, by rw [HD1.out, HD2.out, HD3.out, bit_ne _ 16384 (by decide), bit_ne _ 8192 (by decide)], own_11 HOX.out, own_11 HPX.out, HAX.out, below_11 HRX.out.1⟩
end Go.Proofs.YtakoagfeiolkjaaDoor
