/-
At every input the law FnBurst of the landed program answers true, and its arguments read afterwards as before.
Condition: the package-level tables that the card lists are as the program lays them (the card ties them to the text, within the pruned copy).
-/
import Derived.Test.YthoinddlnmailaaDoorRows
import Derived.WalkKit
import Derived.ProofKit
import Derived.OpenShut
import Derived.Test.YthoinddlnmailaaDoorEnc
import Derived.Test.YthoinddlnmailaaDoorDec
import Derived.Test.YthoinddlnmailaaDoorBur
import Derived.ShutString
import Derived.ChangeOld
import Derived.Below
import Derived.Test.YthoinddlnmailaaDoorCards
import Derived.Test.YthoinddlnmailaaDoorTie
import Derived.Lib.LaidTab
import Derived.Stop.LaidErr
import Derived.LaidMore
import Derived.SevenTiedAt
import Derived.LaidLaws
import Derived.LaidHandle
namespace Go.Proofs.YthoinddlnmailaaDoor
open Go.ChangeShapes Go.WideShapes Go.ChangeAt Go.RowKit
set_option linter.unusedVariables false
set_option maxRecDepth 100000
/-- What the walk is told of a slice of integers that came in: nil, or a row of 'cap' cells, the first 'len' of them its elements. -/
def IsRow (k : IntKind) (w : World) (a : Option Addr) (len cap : Nat) (zs : List Int) : Prop :=
  (a = none ∧ len = 0 ∧ cap = 0 ∧ zs = []) ∨
  ∃ x, a = some x ∧ len ≤ cap ∧ cap ≤ maxLen ∧ zs.length = cap ∧ (∀ i, i < zs.length → w.cell? (x.add i) = some (.int k (zs.getD i 0))) ∧ ∀ n ∈ zs, (Lit.int k n).wf = true
theorem cell_lt {w : World} {b o : Nat} {v : Value} (h : w.cell? ⟨b, o, none⟩ = some v) : b < w.heap.size := by
  by_cases hb : b < w.heap.size
  · exact hb
  · exfalso
    unfold World.cell? at h
    simp [Array.getElem?_eq_none (Nat.le_of_not_lt hb)] at h
theorem IsRow.arr {w : World} {a : Option Addr} {len cap : Nat} {zs : List Int} (h : IsRow .u8 w a len cap zs) : ∃ ys : List Int, ys.length = len ∧ Arr w a ys := by
  rcases h with ⟨rfl, rfl, rfl, rfl⟩ | ⟨x, rfl, hl, hm, hz, hcell, hwz⟩
  · exact ⟨[], rfl, by simp, fun j hj => by simp at hj⟩
  · refine ⟨zs.take len, by simp; omega, ?_, ?_⟩
    · intro z hz'
      have := hwz z (List.mem_of_mem_take hz')
      simpa [Lit.wf, IntKind.min, IntKind.max, IntKind.signed, IntKind.bits] using this
    · intro j hj
      have hj' : j < len := by simp at hj; omega
      obtain ⟨b, off, rfl, hc⟩ := ints_at hcell (by omega)
      have h1 := hc j (by omega)
      refine ⟨b, off, rfl, cell_lt h1, ?_⟩
      rw [h1, List.getD_eq_getElem?_getD, List.getD_eq_getElem?_getD, List.getElem?_take, if_pos hj']

theorem OwnB.cap {w : World} {B n c : Nat} {a : Option Addr} {zs : List Int} (h : OwnB w B (.slice a n c) zs) : n ≤ c := by
  obtain ⟨a', c', e, _, hc⟩ := h.arr
  simp only [Value.slice.injEq] at e
  omega
theorem below_src {w W w' : World} {g : Nat} (h : Below w.heap.size w W) (hg : W.grownBy w' (some g)) (hgw : w.heap.size ≤ g) : Below w.heap.size w w' := h.trans ((Below.refl _ _).grown hg h.size (fun k hk => by cases hk; exact hgw))
theorem srcA_new {w : World} {t : Nat} {a : Option Addr} {n cap : Nat} {st : Int} (h0 : 0 ≤ st) (h1 : st ≤ 18446744073709551615) : SrcA (w.alloc (.cells #[.slice a n cap, .int .i64 0, .int .u64 st] t)) w.heap.size t n a cap :=
  ⟨0, st, heap_alloc_new w _, by omega, by omega, h0, h1⟩
/-- A byte stored into an own row. -/
theorem OwnB.put {w : World} {B g n cap : Nat} {xs : List Int} (h : OwnB w B (.slice (some ⟨g, 0, none⟩) n cap) xs) (j : Nat) (z : Int) (h0 : 0 ≤ z) (h1 : z ≤ 255) :
    OwnB (w.setCell ⟨g, j, none⟩ (.int .u8 z)) B (.slice (some ⟨g, 0, none⟩) n cap) (xs.set j z) ∧ w.grownBy (w.setCell ⟨g, j, none⟩ (.int .u8 z)) (some g) := by
  obtain ⟨hr, hb⟩ := h
  have hn := (own_arr ⟨hr, hb⟩).2
  subst hn
  have hst := hr.stored j (.int .u8 z)
  refine ⟨⟨by rw [List.length_set, bval_set]; exact hst.1, ?_⟩, hst.2⟩
  intro x hx
  rcases List.mem_or_eq_of_mem_set hx with hx | hx
  · exact hb x hx
  · subst hx; exact ⟨h0, h1⟩
theorem xor_bit {z : Int} (h : 0 ≤ z ∧ z ≤ 255) (i : Nat) : (bits .xor .u8 z ((2 : Int) ^ (i % 8) % 256)).toNat = z.toNat ^^^ 2 ^ (i % 8) ∧ 0 ≤ bits .xor .u8 z ((2 : Int) ^ (i % 8) % 256) ∧ bits .xor .u8 z ((2 : Int) ^ (i % 8) % 256) ≤ 255 := by
  obtain ⟨m, rfl⟩ := Int.eq_ofNat_of_zero_le h.1
  have hm : m < 256 := by omega
  have hp : 2 ^ (i % 8) < 256 := by
    have : 2 ^ (i % 8) ≤ 2 ^ 7 := Nat.pow_le_pow_right (by decide) (by omega)
    omega
  have e : ((2 : Int) ^ (i % 8) % 256) = ((2 ^ (i % 8) : Nat) : Int) := by
    rw [Int.natCast_pow]
    have h2 : (((2 ^ (i % 8) : Nat)) : Int) < ((256 : Nat) : Int) := Int.ofNat_lt.2 hp
    rw [Int.natCast_pow] at h2
    have h3 : (0 : Int) ≤ (2 : Int) ^ (i % 8) := Int.le_of_lt (Int.pow_pos (by decide))
    exact Int.emod_eq_of_lt h3 h2
  rw [e, xor_u8 m _ hm hp]
  have hx : m ^^^ 2 ^ (i % 8) < 2 ^ 8 := Nat.xor_lt_two_pow hm hp
  refine ⟨by simp, by omega, by omega⟩
theorem burst_dfC {L xs : List Int} {k d : Nat} (h : Run L xs k d) (hz : ∀ z ∈ L, 0 ≤ z ∧ z ≤ 255) (h0 : 18 ≤ L.length) (h1 : L.length ≤ 300) (hs : sumB L = true) (hd : 0 < d) (hd1 : d ≤ 32) (hk : k ≤ 8 * L.length) : dfC xs = 3 := by
  have hl := h.1
  have hb := h.bad hz (by omega) hs hd hd1 hk
  unfold dfC
  rw [if_neg (by omega), if_neg (by omega), hb]
  rfl
set_option maxHeartbeats 8000000 in
set_option maxRecDepth 100000 in
theorem walkFnBurst (a0 : Option Addr) (len0 cap0 : Nat) (z0 : List Int) (w : World) (w0 : IsRow .u8 w a0 len0 cap0 z0) (he : ErrT w) :
    Calls Tryd.prog 3 #[.slice a0 len0 cap0] w fun e w' => e = .returned (.bool true) ∧ Below w.heap.size w w' := by
  have HE := hide he
  clear he
  obtain ⟨ys, hn, ha⟩ := w0.arr
  have HN := hide hn
  have HA := hide ha
  clear hn ha w0
  by_cases hbig : 1048576 < len0
  · go_enter Tryd.func3, Tryd.ntmps3
    go_wp2
    go_ret
    exact ⟨rfl, Below.refl _ _⟩
  · have hyl : ys.length ≤ 2097152 := by rw [HN.out]; omega
    go_enter Tryd.func3, Tryd.ntmps3
    go_wp2_with fail
    refine (lwBegin_walk _ _ _ _ ys _ HN.out HA.out (by omega) (by omega) (by omega)).mono ?_
    rintro e w1 ⟨st, rfl, hs0, hs1, hb1⟩
    have HS : Hid (SrcA (w1.alloc (.cells #[.slice a0 len0 cap0, .int .i64 0, .int .u64 st] 25)) w1.heap.size 25 ys.length a0 cap0) := hide (by rw [HN.out]; exact srcA_new hs0 hs1)
    have hg : w.heap.size ≤ w1.heap.size := hb1.size
    have hba := (Below.refl w1.heap.size w1).alloc (Nat.le_refl _) (.cells #[.slice a0 len0 cap0, .int .i64 0, .int .u64 st] 25)
    have hbel := hb1.trans (hba.mono hg)
    have zW1 : w1.heap.size < (w1.alloc (.cells #[.slice a0 len0 cap0, .int .i64 0, .int .u64 st] 25)).heap.size := by rw [World.size_alloc]; omega
    clear hb1 hba
    go_wp2_with fail
    generalize w1.alloc (.cells #[.slice a0 len0 cap0, .int .i64 0, .int .u64 st] 25) = W1 at *
    have HV1 := hide hbel
    refine (lwNextA_walk _ _ ys _ a0 cap0 (HA.out.below HV1.out (Nat.le_refl _)) HS.out (by omega) (by omega) hyl).mono ?_
    rintro e w2 ⟨r1, rfl, p1, q1, hg2, hs2⟩
    have HS2 := hide hs2
    have HV2 := hide (below_src HV1.out hg2 hg)
    clear hs2 HS HV1
    go_wp2_with fail
    refine (lwNextA_walk _ _ ys _ a0 cap0 (HA.out.below HV2.out (Nat.le_refl _)) HS2.out (by omega) (by omega) hyl).mono ?_
    rintro e w3 ⟨r2, rfl, p2, q2, hg3, hs3⟩
    have HS3 := hide hs3
    have HV3 := hide (below_src HV2.out hg3 hg)
    clear hs3 HS2 HV2
    go_wp2_with fail
    refine (lwNextA_walk _ _ ys _ a0 cap0 (HA.out.below HV3.out (Nat.le_refl _)) HS3.out (by omega) (by omega) hyl).mono ?_
    rintro e w4 ⟨r3, rfl, p3, q3, hg4, hs4⟩
    have HS4 := hide hs4
    have HV4 := hide (below_src HV3.out hg4 hg)
    clear hs4 HS3 HV3
    go_wp2_with fail
    refine (lwNextA_walk _ _ ys _ a0 cap0 (HA.out.below HV4.out (Nat.le_refl _)) HS4.out (by omega) (by omega) hyl).mono ?_
    rintro e w5 ⟨r4, rfl, p4, q4, hg5, hs5⟩
    have HS5 := hide hs5
    have HV5 := hide (below_src HV4.out hg5 hg)
    clear hs5 HS4 HV4
    go_wp2_with fail
    refine (lwNextA_walk _ _ ys _ a0 cap0 (HA.out.below HV5.out (Nat.le_refl _)) HS5.out (by omega) (by omega) hyl).mono ?_
    rintro e w6 ⟨r5, rfl, p5, q5, hg6, hs6⟩
    have HS6 := hide hs6
    have HV6 := hide (below_src HV5.out hg6 hg)
    have hgg := grown_trans (grown_trans (grown_trans (grown_trans hg2 hg3) hg4) hg5) hg6
    have HW6 := HV6
    have z6 : W1.heap.size ≤ w6.heap.size := hgg.size
    clear hbel hg2 hg3 hg4 hg5 hg6 hs6 HS5 HV5 HV6 hgg hs0 hs1
    go_wp2_with fail
    refine (lwPattern_walk r4 r5 _ p4 (by omega) p5 (by omega)).mono ?_
    rintro e w7 ⟨v, zs, rfl, hzl, hO, hb7⟩
    obtain ⟨ap, kp, rfl, hap⟩ := own_slice hO
    have z7 := hb7.size
    have HO := hide hO
    have HW7 := hide (below_next HW6.out hb7)
    have HS7 := hide (HS6.out.below hb7 (Nat.le_refl _))
    have HC : Hid (frC (r1 * 1024) r2 r3 zs.length = 0) := hide (by
      unfold frC frOK
      rw [macOKB_iff.2 ⟨by omega, by omega⟩, macOKB_iff.2 ⟨by omega, by omega⟩, decide_eq_true p3, decide_eq_true (by omega : r3 ≤ 65535), if_neg (by omega : ¬ 1500 < zs.length)]
      rfl)
    obtain ⟨f1, f2, f3, f4, f5, f6, f7⟩ := df_fr hap.1 HC.out
    have hzl2 : zs.length ≤ 200 := by omega
    have CE := hide (fun W (hb : Below w.heap.size w W) (h : Arr W ap zs) => implEnc_walk (r1 * 1024) r2 r3 ap zs.length kp zs W rfl h (by omega) (HE.out.below hb (Nat.le_refl _)))
    rw [HC.out] at CE
    have CD := hide (fun W a n cap (hb : Below w.heap.size w W) (hn : (frL (r1 * 1024) r2 r3 zs).length = n) (h : Arr W a (frL (r1 * 1024) r2 r3 zs)) (hc : n ≤ cap) => implDec_walk a n cap (frL (r1 * 1024) r2 r3 zs) W hn h (by omega) hc (HE.out.below hb (Nat.le_refl _)))
    rw [f1, f2, f3, f4, f5] at CD
    have HLN := hide f6
    have HSB := hide f7
    clear f1 f2 f3 f4 f5 f6 f7 HC hap hO hzl
    generalize frL (r1 * 1024) r2 r3 zs = L at *
    generalize r1 * 1024 = d at *
    have hX4 := CellF.start w7 d r2 r3 (.slice ap zs.length kp) 32
    have hA4 := (Below.refl w7.heap.size w7).alloc (Nat.le_refl _) (.cells #[.int .i64 d, .int .i64 r2, .int .i64 r3, .slice ap zs.length kp] 32)
    go_wp2_with fail
    generalize w7.alloc (.cells #[.int .i64 d, .int .i64 r2, .int .i64 r3, .slice ap zs.length kp] 32) = W7 at *
    have HX4 := hide hX4
    have zX4 := hX4.1
    have HW7' := hide (below_next HW7.out hA4)
    have HOa := hide (HO.out.next hA4)
    have HS7' := hide (HS7.out.below hA4 (Nat.le_refl _))
    clear hX4 hA4 HW7 HO HS7 hb7 HW6 HS6
    refine (CE.out _ HW7'.out (own_arr HOa.out).1).mono ?_
    rintro e w8 ⟨v5, rfl, hO5, hb8⟩
    obtain ⟨g5, k5, rfl, hg5B, hg5⟩ := hO5.form (by have := HLN.out; omega)
    have z8 := hb8.size
    have HO5 := hide hO5
    have HW8 := hide (below_next HW7'.out hb8)
    have HOb := hide (HOa.out.next hb8)
    have HS8 := hide (HS7'.out.below hb8 (Nat.le_refl _))
    have HX4a := hide (HX4.out.next hb8)
    have hcap5 := hO5.cap
    clear hO5 hb8 HW7' HOa HS7' HX4 CE
    obtain ⟨i, hi, hz0, hz1, hz2⟩ := info_parts Tryd.infoB
    have hst : OwnB (w8.alloc (.cells #[] 5)) w8.heap.size (.slice (some ⟨w8.heap.size, 0, none⟩) 0 0) [] :=
      ⟨World.ownsRow_lit (base := w8.heap.size) (e := 5) (size := 1) w8 #[] 0 (Nat.le_refl _) (by decide) rfl, by simp⟩
    have hAe := (Below.refl w8.heap.size w8).alloc (Nat.le_refl _) (.cells #[] 5)
    have HO5e := hide (HO5.out.next hAe)
    have HLB : Hid (L.length ≤ 300) := hide (by have := HLN.out; omega)
    have HST := hide hst
    clear hst
    have zE := hAe.size
    go_wp2_with (first | (at_builtin; refine wpList_append_own _ rfl _ _ 22 rfl w8.heap.size 5 i _ 1 1 Tryd.underlying22 hi hz0 hz1 hz2 rfl (by decide) (.slice (some ⟨w8.heap.size, 0, none⟩) 0 0) 0 [] rfl HST.out.1 ⟨g5, 0, none⟩ L.length k5 (bval L) rfl (by unfold bval; rw [List.length_map]; omega) (news_arr (own_arr HO5e.out).1) (oneCells _) (by have := HLB.out; unfold maxLen; omega) (by have := HLB.out; omega) (by omega) ?_))
    intro v9 w9 hown9 hgrow9 hnil9
    have hb9 : Below w8.heap.size w8 w9 := hAe.grown hgrow9 (by omega) (fun k hk => (HST.out.1.lt k hk).1)
    have hO9 : OwnB w9 w8.heap.size v9 L := OwnB.app (xs := []) (ys := L) hown9 (by simp) (by simp) HO5.out.2
    obtain ⟨a9, k9, rfl, ha9⟩ := own_slice hO9
    have hc9 := hO9.cap
    have HA9 := hide ha9
    have z9 := hb9.size
    have HO5a := hide (HO5.out.next hb9)
    have HW9 := hide (below_next HW8.out hb9)
    have HOc := hide (HOb.out.next hb9)
    have HS9 := hide (HS8.out.below hb9 (Nat.le_refl _))
    have HX4b := hide (HX4a.out.next hb9)
    clear hb9 hO9 ha9 hown9 hgrow9 hnil9 HST HO5e hAe HO5 HW8 HOb HS8 HX4a hi hz0 hz1 hz2
    go_wp2_with fail
    refine (CD.out _ _ _ _ HW9.out rfl HA9.out hc9).mono ?_
    rintro e w10 ⟨v7, rfl, hO7, hb10⟩
    obtain ⟨a7, k7, rfl, ha7⟩ := own_slice hO7
    have z10 := hb10.size
    have HO7 := hide hO7
    have HO5b := hide (HO5a.out.next hb10)
    have HW10 := hide (below_next HW9.out hb10)
    have HOd := hide (HOc.out.next hb10)
    have HS10 := hide (HS9.out.below hb10 (Nat.le_refl _))
    have HX4c := hide (HX4b.out.next hb10)
    have hX7 := CellF.start w10 d r2 r3 (.slice a7 zs.length k7) 32
    have hA7 := (Below.refl w10.heap.size w10).alloc (Nat.le_refl _) (.cells #[.int .i64 d, .int .i64 r2, .int .i64 r3, .slice a7 zs.length k7] 32)
    clear hb10 ha7 hO7 HO5a HW9 HOc HS9 HX4b HA9 CD
    obtain ⟨e1, e2, e3, e4, e5⟩ := HX4c.out.below hA7 HX4c.out.1
    obtain ⟨i1, i2, i3, i4, i5⟩ := hX7
    have z7a := hA7.size
    have HO5c := hide (HO5b.out.next hA7)
    have HWa := hide (below_next HW10.out hA7)
    have HOe := hide (HOd.out.next hA7)
    have HSa := hide (HS10.out.below hA7 (Nat.le_refl _))
    have HO7a := hide (HO7.out.next hA7)
    go_wp2_with fail
    generalize w10.alloc (.cells #[.int .i64 d, .int .i64 r2, .int .i64 r3, .slice a7 zs.length k7] 32) = W10 at *
    refine (lwSame_walk a7 ap zs.length k7 kp zs W10 rfl (own_arr HO7a.out).1 (own_arr HOe.out).1).mono ?_
    rintro e w11 ⟨rfl, hw11⟩
    rw [hw11]
    clear hw11 hA7 HX4c e1 e2 e3 e4 e5 i1 i2 i3 i4 i5 HO5b HW10 HOd HS10 HO7 HO7a HOe
    have hLp : 0 < 8 * (L.length : Int) := by have := HLN.out; omega
    have hLm : (L.length : Int) ≤ 300 := by have := HLB.out; omega
    go_wp2_with fail
    refine (lwNextA_walk _ _ ys _ a0 cap0 (HA.out.below HWa.out (Nat.le_refl _)) HSa.out (by omega) (by omega) hyl).mono ?_
    rintro e w12 ⟨at_, rfl, pa, qa, hg12, hs12⟩
    have z12 := hg12.size
    have HS12 := hide hs12
    have HW12 := hide (below_src HWa.out hg12 hg)
    have HO5d := hide (HO5c.out.kept hg12 (.inr (by intro e; have : g5 = w1.heap.size := Option.some.inj e; omega)))
    clear hs12 hg12 HSa HWa HO5c
    go_wp2_with fail
    refine (lwNextA_walk _ _ ys _ a0 cap0 (HA.out.below HW12.out (Nat.le_refl _)) HS12.out (by omega) (by omega) hyl).mono ?_
    rintro e w13 ⟨r7, rfl, p7, q7, hg13, hs13⟩
    have z13 := hg13.size
    have HS13 := hide hs13
    have HW13 := hide (below_src HW12.out hg13 hg)
    have HO5e := hide (HO5d.out.kept hg13 (.inr (by intro e; have : g5 = w1.heap.size := Option.some.inj e; omega)))
    clear hs13 hg13 HS12 HW12 HO5d
    obtain ⟨k, rfl⟩ := Int.eq_ofNat_of_zero_le pa
    have HR0 := hide (Run.start HO5e.out.2 k)
    have HLb := hide HO5e.out.2
    have hz13 : W7.heap.size ≤ w13.heap.size := by omega
    go_wp2_with fail
    go_loopw [11] (fun t w2 => ∃ (i dd : Nat) (xs : List Int), Hid (i = k + dd) ∧ k ≤ i ∧ (i : Int) ≤ 8 * (L.length : Int) ∧ (i : Int) ≤ (k : Int) + (1 + r7) ∧ t = .int .i64 i ∧ Hid (OwnB w2 W7.heap.size (.slice (some ⟨g5, 0, none⟩) L.length k5) xs) ∧ Hid (Run L xs k dd) ∧ Hid (SrcA w2 w1.heap.size 25 ys.length a0 cap0) ∧ Hid (Below w.heap.size w w2) ∧ W7.heap.size ≤ w2.heap.size) (fun t _ => 8 * L.length - (intOf t).toNat)
    case atStart => exact ⟨k, 0, L, hide rfl, Nat.le_refl _, by omega, by omega, rfl, HO5e, HR0, HS13, HW13, hz13⟩
    case round =>
      obtain ⟨i, dd, xs, HI, hki, hib, hin, rfl, HO, HR, HSr, HWr, hzr⟩ := hrel
      have hlx : xs.length = L.length := HR.out.1
      have HLX := hide hlx
      clear hlx
      by_cases h1 : (i : Int) < (k : Int) + (1 + r7)
      · by_cases h2 : (i : Int) < 8 * (L.length : Int)
        · have hj : i / 8 < L.length := by omega
          have HC5 : Hid (wr.cell? ⟨g5, i / 8, none⟩ = some (.int .u8 (xs.getD (i / 8) 0))) := hide (by
            have h := HO.out.1
            rw [HLX.out] at h
            rw [h.cellAt (i / 8) (by omega), bval_get _ _ (by rw [HLX.out]; exact hj)])
          by_cases hk : i = k
          · subst hk
            have hc := HC5.out
            have hf : wr.frozen? ⟨g5, i / 8, none⟩ = false := (by have h := HO.out.1; rw [HLX.out] at h; exact h.frozenAt (i / 8))
            have hz := getD_bd HO.out.2 (i / 8)
            generalize hzz : xs.getD (i / 8) 0 = z at *
            have HZ := hide hzz
            clear hzz
            go_wp2_with fail
            have hxb := xor_bit hz i
            have hdd : dd = 0 := by have := HI.out; omega
            subst hdd
            generalize hq : bits .xor .u8 z ((2 : Int) ^ (i % 8) % 256) = q at *
            have hP := HO.out.put (i / 8) q hxb.2.1 hxb.2.2
            refine ⟨⟨i + 1, 1, xs.set (i / 8) q, hide (by omega), by omega, by omega, by omega, by go_num, hide hP.1, hide (HR.out.flip (by omega) (by omega) (by rw [HZ.out]; exact hxb.1) hxb.2.1 hxb.2.2), hide (HSr.out.set (by show w1.heap.size ≠ g5; omega) _), hide (below_src HWr.out hP.2 (by omega)), by rw [World.size_setCell]; exact hzr⟩, by simp [intOf]; omega⟩
          · have hkk : ¬ (i : Int) = (k : Int) := by omega
            go_wp2_with fail
            refine (lwNextA_walk _ _ ys _ a0 cap0 (HA.out.below HWr.out (Nat.le_refl _)) HSr.out (by omega) (by omega) hyl).mono ?_
            rintro e w15 ⟨r8, rfl, p8, q8, hg15, hs15⟩
            have z15 := hg15.size
            have HSs := hide hs15
            have HWs := hide (below_src HWr.out hg15 hg)
            have HOs := hide (HO.out.kept hg15 (.inr (by intro e; have : g5 = w1.heap.size := Option.some.inj e; omega)))
            have HCs : Hid (w15.cell? ⟨g5, i / 8, none⟩ = some (.int .u8 (xs.getD (i / 8) 0))) := hide (by
              have h := HOs.out.1
              rw [HLX.out] at h
              rw [h.cellAt (i / 8) (by omega), bval_get _ _ (by rw [HLX.out]; exact hj)])
            have hf : w15.frozen? ⟨g5, i / 8, none⟩ = false := (by have h := HOs.out.1; rw [HLX.out] at h; exact h.frozenAt (i / 8))
            have hz := getD_bd HO.out.2 (i / 8)
            have hc := HCs.out
            clear hs15 hg15 HSr HWr HO HC5 HCs
            have hdd : 0 < dd := by have := HI.out; omega
            generalize hzz : xs.getD (i / 8) 0 = z at *
            have HZ := hide hzz
            clear hzz
            go_wp2_with fail
            · have hxb := xor_bit hz i
              generalize hq : bits .xor .u8 z ((2 : Int) ^ (i % 8) % 256) = q at *
              have hP := HOs.out.put (i / 8) q hxb.2.1 hxb.2.2
              refine ⟨⟨i + 1, dd + 1, xs.set (i / 8) q, hide (by have := HI.out; omega), by omega, by omega, by omega, by go_num, hide hP.1, hide (HR.out.flip HI.out (by omega) (by rw [HZ.out]; exact hxb.1) hxb.2.1 hxb.2.2), hide (HSs.out.set (by show w1.heap.size ≠ g5; omega) _), hide (below_src HWs.out hP.2 (by omega)), by rw [World.size_setCell]; omega⟩, by simp [intOf]; omega⟩
            · refine ⟨⟨i + 1, dd + 1, xs, hide (by have := HI.out; omega), by omega, by omega, by omega, by go_num, HOs, hide (HR.out.skip hdd), HSs, HWs, by omega⟩, by simp [intOf]; omega⟩
        · have hd : 0 < dd := by have := HI.out; omega
          have hd1 : dd ≤ 32 := by have := HI.out; omega
          have CX := hide (implDec_walk (some ⟨g5, 0, none⟩) L.length k5 xs wr HLX.out (own_arr HO.out).1 (by omega) hcap5 (HE.out.below HWr.out (Nat.le_refl _)))
          rw [burst_dfC HR.out HLb.out (by have := HLN.out; omega) (by omega) HSB.out hd hd1 (by omega)] at CX
          go_wp2_with fail
          refine CX.out.mono ?_
          rintro e w14 ⟨v14, rfl, hO14, hb14⟩
          have HWe := hide (below_next HWr.out hb14)
          clear hO14 hb14
          go_wp2_with fail
          go_ret
          exact ⟨rfl, HWe.out⟩
      · have hd : 0 < dd := by have := HI.out; omega
        have hd1 : dd ≤ 32 := by have := HI.out; omega
        have CX := hide (implDec_walk (some ⟨g5, 0, none⟩) L.length k5 xs wr HLX.out (own_arr HO.out).1 (by omega) hcap5 (HE.out.below HWr.out (Nat.le_refl _)))
        rw [burst_dfC HR.out HLb.out (by have := HLN.out; omega) (by omega) HSB.out hd hd1 (by omega)] at CX
        go_wp2_with fail
        refine CX.out.mono ?_
        rintro e w14 ⟨v14, rfl, hO14, hb14⟩
        have HWe := hide (below_next HWr.out hb14)
        clear hO14 hb14
        go_wp2_with fail
        go_ret
        exact ⟨rfl, HWe.out⟩

theorem own : ownKnob Tryd.prog.godebug = none := by kernel_rfl
theorem laidOut : laidOutB Tryd.prog = true := by kernel_rfl
theorem errG : Tryd.prog.globalNamed "errors.errorType" = some 0 := by kernel_rfl
theorem rtT : (Tryd.prog.cutTypes.find? (·.1 == "internal/reflectlite.rtype")).map (·.2) = some 121 := by kernel_rfl
theorem oneErr : ((List.range 162).filter fun t => Tryd.prog.rowNamed t [101, 114, 114, 111, 114]) = [64] := by kernel_rfl
theorem typesN : Tryd.prog.types.size = 162 := by kernel_rfl
/-- What the row's list gives: the variable holds the handle of the type 'error'. -/
theorem errOf {W : World} (h : laidMetH Tryd.prog Rows.fnBurstRow.laid W) : ErrT W := by
  have h' : laidMet Tryd.prog [] W ∧ handlesMet Tryd.prog Rows.fnBurstRow.laid W := h
  obtain ⟨name, u, ty, e1, e2, e3, e4, e5⟩ := h'.2 _ (List.mem_singleton.2 rfl)
  have en : name = [101, 114, 114, 111, 114] := (Option.some.inj e1).symm
  subst en
  obtain rfl := Option.some.inj (rtT.symm.trans e2)
  have hm : ty ∈ (List.range 162).filter fun t => Tryd.prog.rowNamed t [101, 114, 114, 111, 114] := List.mem_filter.2 ⟨List.mem_range.2 (by rw [← typesN]; exact e3), e4⟩
  rw [oneErr] at hm
  obtain rfl := List.mem_singleton.1 hm
  have hh : typeHandle Tryd.prog 64 = .pointer (some ⟨1, 64, none⟩) := by kernel_rfl
  rw [hh] at e5
  have hc : W.cell? ⟨0, 0, none⟩ = some (.iface 121 (.agg #[.pointer (some ⟨1, 64, none⟩)])) := by simpa using World.var?_cell errG e5 0
  exact ⟨World.block_lt_of_cell? W _ hc, hc⟩
theorem door_met (os : Os) (args : Array Value) : laidMetH Tryd.prog Rows.fnBurstRow.laid ((World.doorLaid Tryd.prog 400 os).forCall (fun _ _ => 0) ⟨#[], args, []⟩).memory :=
  laidMetH_of_parts3 (fuel := 8) (laidMet_of_run' 8 (by kernel_rfl) (by kernel_rfl)) (by kernel_rfl) (by kernel_rfl)
set_option maxRecDepth 100000 in
theorem fnBurst_lifted (os : Os) (started : os.Started) (H : Type) (enc : TypeId × Value → H) :
    ReturnsInHanded {} Tryd.checked os 3 .any (fun w args => (Rows.fnBurstSpec.pre enc Tryd.prog Tryd.f3 [] false w args ∧ laidMetH Tryd.prog Rows.fnBurstRow.laid w) ∧ sizedMet enc Tryd.prog Tryd.f3 (OpenSpec.ofChange Rows.fnBurstSpec) false w args) (Rows.fnBurstSpec.post enc Tryd.prog Tryd.f3 false true false false) := by
  refine returnsInHanded_of_change_and (C := Tryd.checked) (X := fun w _ => laidMetH Tryd.prog Rows.fnBurstRow.laid w) (fun _ _ _ hh h => h.of_heap hh) own started (by kernel_rfl) Tryd.func3
    (ChangeSpec.witness_shaped (enc := enc) (C := Tryd.checked) (os := os) (X := fun w _ => laidMetH Tryd.prog Rows.fnBurstRow.laid w) false (World.doorLaid Tryd.prog 400 os) #[.slice none 0 0] 8 rfl (World.shaped_of_RefB (by kernel_rfl) (by kernel_rfl)) (by kernel_rfl) (by kernel_rfl) (by kernel_rfl) (door_met os _)) ?_
  intro W base args ds gs before hval0 hW _ _ hL _
  have hval : ∀ (j : Nat) t v, Tryd.f3.params[j]? = some t → args[j]? = some v → Value.okWide Tryd.prog W .any base t v := hval0
  have hW' := hW
  obtain ⟨p, q, hA0, hV, rfl, hfz, hnd⟩ := hW
  have hA : DataW.TrodAll enc Tryd.prog W 0 (fun _ => true) true Tryd.f3.params.toList args.toList ds p := hA0
  rw [Tryd.params3] at hA hval
  obtain ⟨v0, vs0, d0, ds0, p0, q0, hargs, rfl, rfl, h0, r0⟩ := trodAll_cons hA
  obtain ⟨rfl, rfl, rfl⟩ := trodAll_nil r0
  obtain rfl : args = #[v0] := by cases args; simp_all
  obtain ⟨rfl, rfl⟩ := trodVars_none hV
  obtain ⟨a0, len0, cap0, rfl⟩ := okWide_slice Tryd.underlying22 (hval 0 22 v0 rfl rfl)
  have k0 := h0
  have lt0 : ∀ x ∈ p0, x.block < W.heap.size := by obtain ⟨m, hm⟩ := k0; exact DataW.trod_lt m _ _ _ hm
  obtain ⟨z0, w0⟩ : ∃ zs, IsRow .u8 W a0 len0 cap0 zs := by
    obtain ⟨fuel, hf⟩ := h0
    rcases open_ints Tryd.underlying22 Tryd.underlying5 (by kernel_rfl) hf with ⟨hcs, _⟩ | ⟨x, l, c, zs, hcs, _, hl, hm, hz, _, hcell, hwz⟩
    · simp [Value.cells] at hcs
      obtain ⟨rfl, rfl, rfl⟩ := hcs
      exact ⟨[], .inl ⟨rfl, rfl, rfl, rfl⟩⟩
    · simp [Value.cells] at hcs
      obtain ⟨rfl, rfl, rfl⟩ := hcs
      exact ⟨zs, .inr ⟨_, rfl, hl, hm, by simpa using hz, hcell, hwz⟩⟩
  clear hA0 hval0
  refine (walkFnBurst a0 len0 cap0 z0 W w0 (errOf hL)).mono fun e W' ⟨he, bel⟩ => ?_
  subst he
  exact ⟨_, rfl, _, _, _, [], _, [], hW', trodAll_mk1 (shut_bool Tryd.underlying4 _), (trodAll_cons_mk (Below.trod laidOut (by kernel_rfl) (of_decide_eq_true (by kernel_rfl)) k0 bel lt0) trodAll_mk0), rfl, bel.frame _, fun h => by cases h⟩
theorem fnBurst_said : Rows.FnBurstSaid :=
  OpenClaim.holds_of_wide 3 Tryd.f3 rfl rfl rfl rfl rfl rfl rfl ⟨rfl, rfl, rfl, rfl, rfl⟩ rfl rfl rfl rfl rfl (by kernel_rfl) Tryd.func3 (by kernel_rfl)
    (of_decide_eq_true (by kernel_rfl)) (by unfold Func.isWrapper; first | (rw [if_pos (by decide +kernel)]; kernel_rfl) | (rw [if_neg (by decide +kernel)]; exact ⟨rfl, rfl⟩))
    (fun os started H enc _ => fnBurst_lifted os started H enc)
theorem fnBurst_plain (f : FuncId) (fn : Func) (hf : Tryd.pinned.checked.prog.funcNamed "loop.example/g00003/laws.FnBurst" = some f) (hfn : Tryd.pinned.checked.prog.funcs[f]? = some fn) :
    true = Tryd.pinned.checked.prog.looks [] ∧ ∀ (j : Nat) t, fn.params[j]? = some t → Tryd.pinned.checked.prog.wantsStandIn t = false := by
  obtain rfl : f = 3 := Option.some.inj ((show Tryd.prog.funcNamed "loop.example/g00003/laws.FnBurst" = some 3 by kernel_rfl).symm.trans hf) |>.symm
  obtain rfl : fn = Tryd.f3 := (Option.some.inj (Tryd.func3.symm.trans hfn)).symm
  refine ⟨by kernel_rfl, fun j t ht => ?_⟩
  rw [Tryd.params3] at ht
  have hm : t ∈ [22] := by simpa using Array.mem_of_getElem? ht
  have hall : ([22].all fun u => !Tryd.prog.wantsStandIn u) = true := by kernel_rfl
  exact (show Tryd.prog.wantsStandIn t = false by simpa using List.all_eq_true.1 hall t hm)
theorem fnBurst_holds : Rows.FnBurstCardSaid :=
  Claim7.holds_tied_plain_at .later [] _ _ _ _ fnBurst_said (fun _ h => by cases h) (by kernel_rfl) (fun _ h => by cases h) fnBurst_row_tie rfl ⟨rfl, rfl⟩ (by kernel_rfl) rfl fnBurst_plain (by kernel_rfl)
end Go.Proofs.YthoinddlnmailaaDoor
