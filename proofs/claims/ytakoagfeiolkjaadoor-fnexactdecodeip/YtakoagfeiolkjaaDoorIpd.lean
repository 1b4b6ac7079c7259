/-
Contracts of functions of this seat.
-/
import Derived.Test.YtakoagfeiolkjaaDoorRows
import Derived.WalkKit
import Derived.ProofKit
import Derived.OpenShut
import Derived.Test.YtakoagfeiolkjaaDoorIpr
namespace Go.Proofs.YtakoagfeiolkjaaDoor
open Go.ChangeShapes Go.WideShapes Go.ChangeAt Go.RowKit
set_option linter.unusedVariables false
set_option maxRecDepth 100000
theorem land_bit (n k : Nat) : n &&& 2 ^ k = n / 2 ^ k % 2 * 2 ^ k := by
  have ht : n.testBit k = decide (n / 2 ^ k % 2 = 1) := Nat.testBit_eq_decide_div_mod_eq
  rcases Nat.mod_two_eq_zero_or_one (n / 2 ^ k) with h | h
  · rw [h, Nat.zero_mul]
    apply Nat.eq_of_testBit_eq
    intro i
    rw [Nat.testBit_and, Nat.testBit_two_pow, Nat.zero_testBit]
    by_cases hi : k = i
    · subst hi; rw [ht, h]; rfl
    · simp [hi]
  · rw [h, Nat.one_mul]
    apply Nat.eq_of_testBit_eq
    intro i
    rw [Nat.testBit_and, Nat.testBit_two_pow]
    by_cases hi : k = i
    · subst hi; rw [ht, h]; simp
    · simp [hi]
theorem and_bit (k : Nat) (hk : k ≤ 15) (f : Int) (h0 : 0 ≤ f) (h1 : f ≤ 65535) : bits .and .i64 f ((2 ^ k : Nat) : Int) = ((f.toNat / 2 ^ k % 2 * 2 ^ k : Nat) : Int) := by
  obtain ⟨n, rfl⟩ := Int.eq_ofNat_of_zero_le h0
  have hk2 : 2 ^ k ≤ 32768 := by
    have : 2 ^ k ≤ 2 ^ 15 := Nat.pow_le_pow_right (by decide) hk
    exact this
  have hb : IntKind.i64.bits = 64 := rfl
  have e0 : (2 : Nat) ^ 64 = 18446744073709551616 := by decide
  have e1 : n % 18446744073709551616 = n := Nat.mod_eq_of_lt (by omega)
  have e2 : 2 ^ k % 18446744073709551616 = 2 ^ k := Nat.mod_eq_of_lt (by omega)
  have h2 : n / 2 ^ k % 2 * 2 ^ k ≤ 1 * 2 ^ k := Nat.mul_le_mul_right _ (by omega)
  simp only [bits, BitVec.ofInt_natCast, BitVec.toNat_and, BitVec.toNat_ofNat, hb, e0, e1, e2, land_bit, Int.toNat_natCast]
  exact wrap_i64' _ (by omega) (by omega)
theorem and_16384 (f : Int) (h0 : 0 ≤ f) (h1 : f ≤ 65535) : bits .and .i64 f 16384 = f / 16384 % 2 * 16384 := by
  have h : bits .and .i64 f 16384 = ((f.toNat / 16384 % 2 * 16384 : Nat) : Int) := and_bit 14 (by decide) f h0 h1
  rw [h]; omega
theorem and_8192 (f : Int) (h0 : 0 ≤ f) (h1 : f ≤ 65535) : bits .and .i64 f 8192 = f / 8192 % 2 * 8192 := by
  have h : bits .and .i64 f 8192 = ((f.toNat / 8192 % 2 * 8192 : Nat) : Int) := and_bit 13 (by decide) f h0 h1
  rw [h]; omega
theorem and_32768 (f : Int) (h0 : 0 ≤ f) (h1 : f ≤ 65535) : bits .and .i64 f 32768 = f / 32768 * 32768 := by
  have h : bits .and .i64 f 32768 = ((f.toNat / 32768 % 2 * 32768 : Nat) : Int) := and_bit 15 (by decide) f h0 h1
  rw [h]; omega
def dpW (zs : List Int) : Int := tnum ((zs.drop 2).take 2)
def dpF (zs : List Int) : Int := tnum ((zs.drop 6).take 2)
def dpC (zs : List Int) : Int := if rhC zs ≠ 0 then rhC zs else if dpW zs < ihl zs ∨ (zs.length : Int) < dpW zs then 5 else if 32768 ≤ dpF zs ∨ 65535 < dpF zs % 8192 * 8 + (dpW zs - ihl zs) then 1 else 0
def ResP (w0 w : World) : Prop := BoxRow w0 w #[.int .i64 0, .int .i64 0, .bool false, .bool false, .int .i64 0, .int .i64 0, .int .i64 0, .int .i64 0, .int .i64 0, .slice none 0 0, .slice none 0 0] 39
theorem ResP.start (w : World) : ResP w (w.alloc (.cells #[.int .i64 0, .int .i64 0, .bool false, .bool false, .int .i64 0, .int .i64 0, .int .i64 0, .int .i64 0, .int .i64 0, .slice none 0 0, .slice none 0 0] 39)) := BoxRow.start w _ _
set_option maxHeartbeats 2000000 in
theorem specDecIP_head (a : Option Addr) (n cap : Nat) (zs : List Int) (w : World) (hn : zs.length = n) (ha : Arr w a zs) (hm : n ≤ 1048576) (hc : n ≤ cap) (h : rhC zs ≠ 0) :
    Calls Tryd.prog 17 #[.slice a n cap] w fun e w' => e = .returned (.tuple #[.agg #[.int .i64 0, .int .i64 0, .bool false, .bool false, .int .i64 0, .int .i64 0, .int .i64 0, .int .i64 0, .int .i64 0, .slice none 0 0, .slice none 0 0], .int .i64 (rhC zs)]) ∧ Below w.heap.size w w' := by
  have HR := hide (ResP.start w)
  have CR := hide (fun W (hb : Below w.heap.size w W) => readHead_any a n cap zs W hn (ha.below hb (Nat.le_refl _)) hm hc)
  have hq : (rhC zs == 0) = false := by rw [beq_eq_false_iff_ne]; exact h
  generalize rhC zs = RC at *
  generalize rhN zs = RN at *
  clear ha hn
  go_enter Tryd.func17, Tryd.ntmps17
  go_wp2_with fail
  refine (CR.out _ HR.out.1).mono ?_
  rintro e w1 ⟨rfl, hw1⟩
  rw [hw1]
  clear hw1
  have HB := hide HR.out.1
  go_wp2_with fail
  exact bodyPost_ret (v := .tuple #[.agg #[.int .i64 0, .int .i64 0, .bool false, .bool false, .int .i64 0, .int .i64 0, .int .i64 0, .int .i64 0, .int .i64 0, .slice none 0 0, .slice none 0 0], .int .i64 RC]) (by simp [results, Tryd.results17, go_sem]) rfl ⟨rfl, HB.out⟩
theorem sl_any (b off n cap l h : Nat) (hl : l ≤ h) (hh : h ≤ cap) : ∃ a' : Option Addr, (∀ w : World, (Instr.slice 22 (.slice (some ⟨b, off, none⟩) n cap) (some (.int .i64 (l : Int))) (some (.int .i64 (h : Int))) none).run Tryd.prog w = .ok (.slice a' (h - l) (cap - l)) w) ∧ (l < cap → a' = some ⟨b, off + l, none⟩) := by
  by_cases hc : l < cap
  · exact ⟨_, sl_part b off n cap l h hl hh hc, fun _ => rfl⟩
  · refine ⟨some ⟨b, off, none⟩, fun w => ?_, fun h => absurd h hc⟩
    have hs : (sizeOf (Tryd.prog.elem 22)).run Tryd.prog w = .ok 1 w := Tryd.sizeOf5 w
    have he := run_slice_lh (P := Tryd.prog) (w := w) 22 (some ⟨b, off, none⟩) n cap Tryd.underlying22 .i64 .i64 (l : Int) (h : Int) (by omega) (by omega) (by omega)
    rw [he, hs]
    have e3 : cap = l := by omega
    subst e3
    simp [sliced, Result.andThen]
theorem arr_any {w : World} {b off cap l h : Nat} {zs : List Int} {a' : Option Addr} (ha : Arr w (some ⟨b, off, none⟩) zs) (he : l < cap → a' = some ⟨b, off + l, none⟩) (hh : h ≤ cap) : Arr w a' ((zs.drop l).take (h - l)) := by
  by_cases hc : l < cap
  · rw [he hc]; exact (ha.drop l).take (h - l)
  · have e : (zs.drop l).take (h - l) = [] := by rw [show h - l = 0 by omega, List.take_zero]
    rw [e]
    exact ⟨by simp, fun j hj => by simp at hj⟩
/-- Three bytes of a packet are as they were. -/
abbrev InP (w w' : World) (b off : Nat) (t1 t8 t9 : Int) : Prop := Below w.heap.size w w' ∧ w.heap.size < w'.heap.size ∧ b < w.heap.size ∧ w'.cell? ⟨b, off + 1, none⟩ = some (.int .u8 t1) ∧ w'.cell? ⟨b, off + 8, none⟩ = some (.int .u8 t8) ∧ w'.cell? ⟨b, off + 9, none⟩ = some (.int .u8 t9)
theorem InP.next {w w1 w2 : World} {b off : Nat} {t1 t8 t9 : Int} (h : InP w w1 b off t1 t8 t9) (hb : Below w1.heap.size w1 w2) : InP w w2 b off t1 t8 t9 := by
  obtain ⟨h1, h0, h2, c1, c8, c9⟩ := h
  have hlt : b < w1.heap.size := Nat.lt_of_lt_of_le h2 h1.size
  exact ⟨h1.trans (hb.mono h1.size), Nat.lt_of_lt_of_le h0 hb.size, h2, by rw [hb.cell (p := ⟨b, off + 1, none⟩) hlt]; exact c1, by rw [hb.cell (p := ⟨b, off + 8, none⟩) hlt]; exact c8, by rw [hb.cell (p := ⟨b, off + 9, none⟩) hlt]; exact c9⟩
theorem InP.start {w w1 : World} {b off : Nat} {t1 t8 t9 : Int} (hb : Below w.heap.size w w1) (h0 : w.heap.size < w1.heap.size) (hlt : b < w.heap.size) (c1 : w.cell? ⟨b, off + 1, none⟩ = some (.int .u8 t1)) (c8 : w.cell? ⟨b, off + 8, none⟩ = some (.int .u8 t8)) (c9 : w.cell? ⟨b, off + 9, none⟩ = some (.int .u8 t9)) : InP w w1.drew b off t1 t8 t9 :=
  ⟨hb.drew, h0, hlt, by rw [hb.drew.cell (p := ⟨b, off + 1, none⟩) hlt]; exact c1, by rw [hb.drew.cell (p := ⟨b, off + 8, none⟩) hlt]; exact c8, by rw [hb.drew.cell (p := ⟨b, off + 9, none⟩) hlt]; exact c9⟩
theorem InP.alloc {w w1 : World} {b off : Nat} {t1 t8 t9 : Int} (h : InP w w1 b off t1 t8 t9) (o : Obj) : InP w (w1.alloc o) b off t1 t8 t9 := h.next ((Below.refl _ _).alloc (Nat.le_refl _) o)
theorem InP.realloc {w w1 : World} {b off : Nat} {t1 t8 t9 : Int} {o1 : Obj} (h : InP w (w1.alloc o1) b off t1 t8 t9) (o2 : Obj) : InP w (w1.alloc o2) b off t1 t8 t9 := by
  obtain ⟨h1, h0, h2, c1, c8, c9⟩ := h
  have s1 := World.size_alloc w1 o1
  have s2 := World.size_alloc w1 o2
  have hle : w.heap.size ≤ w1.heap.size := by omega
  have a1 : Below w.heap.size w1 (w1.alloc o1) := (Below.refl _ _).alloc hle o1
  have a2 : Below w.heap.size w1 (w1.alloc o2) := (Below.refl _ _).alloc hle o2
  have hb : Below w.heap.size w w1 := ⟨a1.os.symm.trans h1.os, a1.tape.symm.trans h1.tape, a1.output.symm.trans h1.output, hle, fun k hk => (a1.block k hk).symm.trans (h1.block k hk)⟩
  have hb2 : Below w.heap.size (w1.alloc o1) (w1.alloc o2) := ⟨a2.os.trans a1.os.symm, a2.tape.trans a1.tape.symm, a2.output.trans a1.output.symm, by omega, fun k hk => (a2.block k hk).trans (a1.block k hk).symm⟩
  exact ⟨hb.trans a2, by omega, h2, by rw [hb2.cell (p := ⟨b, off + 1, none⟩) h2]; exact c1, by rw [hb2.cell (p := ⟨b, off + 8, none⟩) h2]; exact c8, by rw [hb2.cell (p := ⟨b, off + 9, none⟩) h2]; exact c9⟩
theorem InP.set {w w1 : World} {b off g : Nat} {t1 t8 t9 : Int} (h : InP w w1 b off t1 t8 t9) (hg : w.heap.size ≤ g) (i : Nat) (u : Value) : InP w (w1.setCell ⟨g, i, none⟩ u) b off t1 t8 t9 := by
  obtain ⟨h1, h0, h2, c1, c8, c9⟩ := h
  have hb : Below w.heap.size w1 (w1.setCell ⟨g, i, none⟩ u) := (Below.refl _ _).setCell (p := ⟨g, i, none⟩) hg u
  exact ⟨h1.trans hb, Nat.lt_of_lt_of_le h0 hb.size, h2, by rw [hb.cell (p := ⟨b, off + 1, none⟩) h2]; exact c1, by rw [hb.cell (p := ⟨b, off + 8, none⟩) h2]; exact c8, by rw [hb.cell (p := ⟨b, off + 9, none⟩) h2]; exact c9⟩
theorem InP.eleven {w w1 : World} {b off g : Nat} {t1 t8 t9 : Int} {u0 u1 u2 u3 u4 u5 u6 u7 u8 u9 u10 : Value} (h : InP w w1 b off t1 t8 t9) (hg : w.heap.size ≤ g) : InP w (((((((((((w1.setCell ⟨g, 0, none⟩ u0).setCell ⟨g, 1, none⟩ u1).setCell ⟨g, 2, none⟩ u2).setCell ⟨g, 3, none⟩ u3).setCell ⟨g, 4, none⟩ u4).setCell ⟨g, 5, none⟩ u5).setCell ⟨g, 6, none⟩ u6).setCell ⟨g, 7, none⟩ u7).setCell ⟨g, 8, none⟩ u8).setCell ⟨g, 9, none⟩ u9).setCell ⟨g, 10, none⟩ u10) b off t1 t8 t9 := (InP.set (InP.set (InP.set (InP.set (InP.set (InP.set (InP.set (InP.set (InP.set (InP.set (InP.set h hg 0 u0) hg 1 u1) hg 2 u2) hg 3 u3) hg 4 u4) hg 5 u5) hg 6 u6) hg 7 u7) hg 8 u8) hg 9 u9) hg 10 u10)
theorem InP.le_alloc {w X : World} {o : Obj} {b off : Nat} {t1 t8 t9 : Int} (h : InP w (X.alloc o) b off t1 t8 t9) : w.heap.size ≤ X.heap.size := by
  have := h.2.1
  have := World.size_alloc X o
  omega
theorem alloc_kept {X w' : World} {o : Obj} (hb : Below (X.alloc o).heap.size (X.alloc o) w') : w'.heap[X.heap.size]? = some o := (hb.block _ (by rw [World.size_alloc]; omega)).trans (heap_alloc_new _ _)
theorem alloc_kept_d {X w' : World} {o : Obj} (hb : Below (X.alloc o).drew.heap.size (X.alloc o).drew w') : w'.heap[X.heap.size]? = some o := (hb.block _ (by show _ < (X.alloc o).heap.size; rw [World.size_alloc]; omega)).trans (heap_alloc_new _ _)
theorem InP.startA {w w1 : World} {b off : Nat} {t1 t8 t9 : Int} (hb : Below w.heap.size w w1) (h0 : w.heap.size < w1.heap.size) (hlt : b < w.heap.size) (c1 : w.cell? ⟨b, off + 1, none⟩ = some (.int .u8 t1)) (c8 : w.cell? ⟨b, off + 8, none⟩ = some (.int .u8 t8)) (c9 : w.cell? ⟨b, off + 9, none⟩ = some (.int .u8 t9)) (o : Obj) : InP w (w1.alloc o).drew b off t1 t8 t9 :=
  InP.start (hb.alloc hb.size o) (by rw [World.size_alloc]; omega) hlt c1 c8 c9
theorem row_kept {X w' : World} {o : Obj} {g : Nat} (h : X.heap[g]? = some o) (hb : Below X.heap.size X w') : w'.heap[g]? = some o := (hb.block _ (Array.getElem?_eq_some_iff.1 h).1).trans h
theorem cellsP {w : World} {g t : Nat} {u0 u1 u2 u3 u4 u5 u6 u7 u8 u9 u10 : Value} (hh : w.heap[g]? = some (.cells #[u0, u1, u2, u3, u4, u5, u6, u7, u8, u9, u10] t)) : w.cell? ⟨g, 0, none⟩ = some u0 ∧ w.cell? ⟨g, 1, none⟩ = some u1 ∧ w.cell? ⟨g, 2, none⟩ = some u2 ∧ w.cell? ⟨g, 3, none⟩ = some u3 ∧ w.cell? ⟨g, 4, none⟩ = some u4 ∧ w.cell? ⟨g, 5, none⟩ = some u5 ∧ w.cell? ⟨g, 6, none⟩ = some u6 ∧ w.cell? ⟨g, 7, none⟩ = some u7 ∧ w.cell? ⟨g, 8, none⟩ = some u8 ∧ w.cell? ⟨g, 9, none⟩ = some u9 ∧ w.cell? ⟨g, 10, none⟩ = some u10 ∧ ∀ o, w.frozen? ⟨g, o, none⟩ = false :=
  ⟨cell_of_row w g 0 _ _ _ hh, cell_of_row w g 1 _ _ _ hh, cell_of_row w g 2 _ _ _ hh, cell_of_row w g 3 _ _ _ hh, cell_of_row w g 4 _ _ _ hh, cell_of_row w g 5 _ _ _ hh, cell_of_row w g 6 _ _ _ hh, cell_of_row w g 7 _ _ _ hh, cell_of_row w g 8 _ _ _ hh, cell_of_row w g 9 _ _ _ hh, cell_of_row w g 10 _ _ _ hh, fun o => frozen_of_row w g o _ _ hh⟩
theorem ResP.set {w0 w : World} {g : Nat} (h : ResP w0 w) (hg : w0.heap.size < g) (i : Nat) (u : Value) : ResP w0 (w.setCell ⟨g, i, none⟩ u) := by
  have hgr := grown_cell0 w g i u
  exact ⟨h.1.setCell (p := ⟨g, i, none⟩) (Nat.le_of_lt hg) u, Nat.lt_of_lt_of_le h.2.1 hgr.size, (hgr.block _ h.2.1 (by intro e; have := Option.some.inj e; omega)).trans h.2.2⟩
theorem OwnB.aside0 {w : World} {B g : Nat} {v : Value} {zs : List Int} (h : OwnB w B v zs) (hne : ∀ k, v.ownBlock = some k → k ≠ g) (i : Nat) (u : Value) : OwnB (w.setCell ⟨g, i, none⟩ u) B v zs :=
  h.kept (grown_cell0 w g i u) (by cases hv : v.ownBlock with | none => exact .inl rfl | some b => exact .inr (fun e => hne b hv (Option.some.inj e)))
/-- The packet that was read lies in block g, its rows are new. -/
def PkS (w wx : World) (g : Nat) (t1 t4 : Int) (e1 e2 : Bool) (d3 t8 t9 t12 t16 : Int) (LO LP : List Int) (ao : Option Addr) (lo co : Nat) (ap : Option Addr) (lp cp : Nat) : Prop := ResP w wx ∧ wx.heap[g]? = some (.cells #[.int .i64 t1, .int .i64 t4, .bool e1, .bool e2, .int .i64 d3, .int .i64 t8, .int .i64 t9, .int .i64 t12, .int .i64 t16, .slice ao lo co, .slice ap lp cp] 39) ∧ w.heap.size < g ∧ OwnB wx (w.heap.size + 1) (.slice ao lo co) LO ∧ OwnB wx (w.heap.size + 1) (.slice ap lp cp) LP ∧ (∀ b, (Value.slice ao lo co).ownBlock = some b → (Value.slice ap lp cp).ownBlock ≠ some b)
theorem apart_of {w1 w2 : World} {B C : Nat} {v u : Value} {xs ys : List Int} (h : OwnB w1 B v xs) (k : OwnB w2 C u ys) (hC : w1.heap.size ≤ C) : ∀ b, v.ownBlock = some b → u.ownBlock ≠ some b := fun b e e' => by
  have := (h.1.lt b e).2
  have := (k.1.lt b e').1
  omega
/-- The block was made last. -/
theorem PkS.last {w X w1 w2 : World} {t1 t4 : Int} {e1 e2 : Bool} {d3 t8 t9 t12 t16 : Int} {LO LP : List Int} {ao : Option Addr} {lo co : Nat} {ap : Option Addr} {lp cp : Nat} (hr : ResP w X) (hO : OwnB w1 X.heap.size (.slice ao lo co) LO) (hbO : Below X.heap.size X w1) (hP : OwnB w2 w1.heap.size (.slice ap lp cp) LP) (hbP : Below w1.heap.size w1 w2) : PkS w (w2.alloc (.cells #[.int .i64 t1, .int .i64 t4, .bool e1, .bool e2, .int .i64 d3, .int .i64 t8, .int .i64 t9, .int .i64 t12, .int .i64 t16, .slice ao lo co, .slice ap lp cp] 39)) w2.heap.size t1 t4 e1 e2 d3 t8 t9 t12 t16 LO LP ao lo co ap lp cp := by
  have hr2 : ResP w w2 := BoxRow.next (BoxRow.next hr hbO) hbP
  have hal := (Below.refl w2.heap.size w2).alloc (Nat.le_refl _) (.cells #[.int .i64 t1, .int .i64 t4, .bool e1, .bool e2, .int .i64 d3, .int .i64 t8, .int .i64 t9, .int .i64 t12, .int .i64 t16, .slice ao lo co, .slice ap lp cp] 39)
  have s0 : w.heap.size + 1 ≤ X.heap.size := hr.2.1
  have s1 := hbO.size
  have s2 := hbP.size
  exact ⟨BoxRow.next hr2 hal, heap_alloc_new _ _, hr2.2.1, ((hO.next hbP).next hal).mono s0, (hP.next hal).mono (by omega), apart_of hO hP (Nat.le_refl _)⟩
set_option maxHeartbeats 4000000 in
/-- The block was made between the two copies. -/
theorem PkS.mid {w X w1 w2 : World} {g : Nat} {t1 t4 : Int} {e1 e2 : Bool} {d3 t8 t9 t12 t16 : Int} {LO LP : List Int} {ao : Option Addr} {lo co : Nat} {ap : Option Addr} {lp cp : Nat} (hr : ResP w X) (hO : OwnB w1 X.heap.size (.slice ao lo co) LO) (hbO : Below X.heap.size X w1) (hP : OwnB w2 (w1.alloc (.cells #[.int .i64 0, .int .i64 0, .bool false, .bool false, .int .i64 0, .int .i64 0, .int .i64 0, .int .i64 0, .int .i64 0, .slice none 0 0, .slice none 0 0] 39)).heap.size (.slice ap lp cp) LP) (hbP : Below (w1.alloc (.cells #[.int .i64 0, .int .i64 0, .bool false, .bool false, .int .i64 0, .int .i64 0, .int .i64 0, .int .i64 0, .int .i64 0, .slice none 0 0, .slice none 0 0] 39)).heap.size (w1.alloc (.cells #[.int .i64 0, .int .i64 0, .bool false, .bool false, .int .i64 0, .int .i64 0, .int .i64 0, .int .i64 0, .int .i64 0, .slice none 0 0, .slice none 0 0] 39)) w2) (hgg : g = w1.heap.size) : PkS w (((((((((((w2.setCell ⟨g, 0, none⟩ (.int .i64 t1)).setCell ⟨g, 1, none⟩ (.int .i64 t4)).setCell ⟨g, 2, none⟩ (.bool e1)).setCell ⟨g, 3, none⟩ (.bool e2)).setCell ⟨g, 4, none⟩ (.int .i64 d3)).setCell ⟨g, 5, none⟩ (.int .i64 t8)).setCell ⟨g, 6, none⟩ (.int .i64 t9)).setCell ⟨g, 7, none⟩ (.int .i64 t12)).setCell ⟨g, 8, none⟩ (.int .i64 t16)).setCell ⟨g, 9, none⟩ (.slice ao lo co)).setCell ⟨g, 10, none⟩ (.slice ap lp cp)) g t1 t4 e1 e2 d3 t8 t9 t12 t16 LO LP ao lo co ap lp cp := by
  have hal := (Below.refl w1.heap.size w1).alloc (Nat.le_refl _) (.cells #[.int .i64 0, .int .i64 0, .bool false, .bool false, .int .i64 0, .int .i64 0, .int .i64 0, .int .i64 0, .int .i64 0, .slice none 0 0, .slice none 0 0] 39)
  have sa := World.size_alloc w1 (.cells #[.int .i64 0, .int .i64 0, .bool false, .bool false, .int .i64 0, .int .i64 0, .int .i64 0, .int .i64 0, .int .i64 0, .slice none 0 0, .slice none 0 0] 39)
  have hr1 : ResP w w1 := BoxRow.next hr hbO
  have hr2 : ResP w w2 := BoxRow.next (BoxRow.next hr1 hal) hbP
  have h0 : w2.heap[g]? = some (.cells #[.int .i64 0, .int .i64 0, .bool false, .bool false, .int .i64 0, .int .i64 0, .int .i64 0, .int .i64 0, .int .i64 0, .slice none 0 0, .slice none 0 0] 39) := by rw [hgg]; exact (hbP.block _ (by omega)).trans (heap_alloc_new _ _)
  have s0 : w.heap.size + 1 ≤ X.heap.size := hr.2.1
  have s1 := hbO.size
  have s2 := hbP.size
  have hg : w.heap.size < g := by rw [hgg]; exact hr1.2.1
  have hO2 := (hO.next hal).next hbP
  have n1 : ∀ k, (Value.slice ao lo co).ownBlock = some k → k ≠ g := fun k hk => by have := (hO.1.lt k hk).2; omega
  have n2 : ∀ k, (Value.slice ap lp cp).ownBlock = some k → k ≠ g := fun k hk => by have := (hP.1.lt k hk).1; omega
  refine ⟨?_, ?_, hg, ?_, ?_, apart_of hO hP (by omega)⟩
  · have hr := hr2
    exact (ResP.set (ResP.set (ResP.set (ResP.set (ResP.set (ResP.set (ResP.set (ResP.set (ResP.set (ResP.set (ResP.set hr hg 0 _) hg 1 _) hg 2 _) hg 3 _) hg 4 _) hg 5 _) hg 6 _) hg 7 _) hg 8 _) hg 9 _) hg 10 _)
  · have h1 : (w2.setCell ⟨g, 0, none⟩ (.int .i64 t1)).heap[g]? = some (.cells #[.int .i64 t1, .int .i64 0, .bool false, .bool false, .int .i64 0, .int .i64 0, .int .i64 0, .int .i64 0, .int .i64 0, .slice none 0 0, .slice none 0 0] 39) := heap_setCell_same _ _ 0 _ _ _ h0
    have h2 : ((w2.setCell ⟨g, 0, none⟩ (.int .i64 t1)).setCell ⟨g, 1, none⟩ (.int .i64 t4)).heap[g]? = some (.cells #[.int .i64 t1, .int .i64 t4, .bool false, .bool false, .int .i64 0, .int .i64 0, .int .i64 0, .int .i64 0, .int .i64 0, .slice none 0 0, .slice none 0 0] 39) := heap_setCell_same _ _ 1 _ _ _ h1
    have h3 : (((w2.setCell ⟨g, 0, none⟩ (.int .i64 t1)).setCell ⟨g, 1, none⟩ (.int .i64 t4)).setCell ⟨g, 2, none⟩ (.bool e1)).heap[g]? = some (.cells #[.int .i64 t1, .int .i64 t4, .bool e1, .bool false, .int .i64 0, .int .i64 0, .int .i64 0, .int .i64 0, .int .i64 0, .slice none 0 0, .slice none 0 0] 39) := heap_setCell_same _ _ 2 _ _ _ h2
    have h4 : ((((w2.setCell ⟨g, 0, none⟩ (.int .i64 t1)).setCell ⟨g, 1, none⟩ (.int .i64 t4)).setCell ⟨g, 2, none⟩ (.bool e1)).setCell ⟨g, 3, none⟩ (.bool e2)).heap[g]? = some (.cells #[.int .i64 t1, .int .i64 t4, .bool e1, .bool e2, .int .i64 0, .int .i64 0, .int .i64 0, .int .i64 0, .int .i64 0, .slice none 0 0, .slice none 0 0] 39) := heap_setCell_same _ _ 3 _ _ _ h3
    have h5 : (((((w2.setCell ⟨g, 0, none⟩ (.int .i64 t1)).setCell ⟨g, 1, none⟩ (.int .i64 t4)).setCell ⟨g, 2, none⟩ (.bool e1)).setCell ⟨g, 3, none⟩ (.bool e2)).setCell ⟨g, 4, none⟩ (.int .i64 d3)).heap[g]? = some (.cells #[.int .i64 t1, .int .i64 t4, .bool e1, .bool e2, .int .i64 d3, .int .i64 0, .int .i64 0, .int .i64 0, .int .i64 0, .slice none 0 0, .slice none 0 0] 39) := heap_setCell_same _ _ 4 _ _ _ h4
    have h6 : ((((((w2.setCell ⟨g, 0, none⟩ (.int .i64 t1)).setCell ⟨g, 1, none⟩ (.int .i64 t4)).setCell ⟨g, 2, none⟩ (.bool e1)).setCell ⟨g, 3, none⟩ (.bool e2)).setCell ⟨g, 4, none⟩ (.int .i64 d3)).setCell ⟨g, 5, none⟩ (.int .i64 t8)).heap[g]? = some (.cells #[.int .i64 t1, .int .i64 t4, .bool e1, .bool e2, .int .i64 d3, .int .i64 t8, .int .i64 0, .int .i64 0, .int .i64 0, .slice none 0 0, .slice none 0 0] 39) := heap_setCell_same _ _ 5 _ _ _ h5
    have h7 : (((((((w2.setCell ⟨g, 0, none⟩ (.int .i64 t1)).setCell ⟨g, 1, none⟩ (.int .i64 t4)).setCell ⟨g, 2, none⟩ (.bool e1)).setCell ⟨g, 3, none⟩ (.bool e2)).setCell ⟨g, 4, none⟩ (.int .i64 d3)).setCell ⟨g, 5, none⟩ (.int .i64 t8)).setCell ⟨g, 6, none⟩ (.int .i64 t9)).heap[g]? = some (.cells #[.int .i64 t1, .int .i64 t4, .bool e1, .bool e2, .int .i64 d3, .int .i64 t8, .int .i64 t9, .int .i64 0, .int .i64 0, .slice none 0 0, .slice none 0 0] 39) := heap_setCell_same _ _ 6 _ _ _ h6
    have h8 : ((((((((w2.setCell ⟨g, 0, none⟩ (.int .i64 t1)).setCell ⟨g, 1, none⟩ (.int .i64 t4)).setCell ⟨g, 2, none⟩ (.bool e1)).setCell ⟨g, 3, none⟩ (.bool e2)).setCell ⟨g, 4, none⟩ (.int .i64 d3)).setCell ⟨g, 5, none⟩ (.int .i64 t8)).setCell ⟨g, 6, none⟩ (.int .i64 t9)).setCell ⟨g, 7, none⟩ (.int .i64 t12)).heap[g]? = some (.cells #[.int .i64 t1, .int .i64 t4, .bool e1, .bool e2, .int .i64 d3, .int .i64 t8, .int .i64 t9, .int .i64 t12, .int .i64 0, .slice none 0 0, .slice none 0 0] 39) := heap_setCell_same _ _ 7 _ _ _ h7
    have h9 : (((((((((w2.setCell ⟨g, 0, none⟩ (.int .i64 t1)).setCell ⟨g, 1, none⟩ (.int .i64 t4)).setCell ⟨g, 2, none⟩ (.bool e1)).setCell ⟨g, 3, none⟩ (.bool e2)).setCell ⟨g, 4, none⟩ (.int .i64 d3)).setCell ⟨g, 5, none⟩ (.int .i64 t8)).setCell ⟨g, 6, none⟩ (.int .i64 t9)).setCell ⟨g, 7, none⟩ (.int .i64 t12)).setCell ⟨g, 8, none⟩ (.int .i64 t16)).heap[g]? = some (.cells #[.int .i64 t1, .int .i64 t4, .bool e1, .bool e2, .int .i64 d3, .int .i64 t8, .int .i64 t9, .int .i64 t12, .int .i64 t16, .slice none 0 0, .slice none 0 0] 39) := heap_setCell_same _ _ 8 _ _ _ h8
    have h10 : ((((((((((w2.setCell ⟨g, 0, none⟩ (.int .i64 t1)).setCell ⟨g, 1, none⟩ (.int .i64 t4)).setCell ⟨g, 2, none⟩ (.bool e1)).setCell ⟨g, 3, none⟩ (.bool e2)).setCell ⟨g, 4, none⟩ (.int .i64 d3)).setCell ⟨g, 5, none⟩ (.int .i64 t8)).setCell ⟨g, 6, none⟩ (.int .i64 t9)).setCell ⟨g, 7, none⟩ (.int .i64 t12)).setCell ⟨g, 8, none⟩ (.int .i64 t16)).setCell ⟨g, 9, none⟩ (.slice ao lo co)).heap[g]? = some (.cells #[.int .i64 t1, .int .i64 t4, .bool e1, .bool e2, .int .i64 d3, .int .i64 t8, .int .i64 t9, .int .i64 t12, .int .i64 t16, .slice ao lo co, .slice none 0 0] 39) := heap_setCell_same _ _ 9 _ _ _ h9
    have h11 : (((((((((((w2.setCell ⟨g, 0, none⟩ (.int .i64 t1)).setCell ⟨g, 1, none⟩ (.int .i64 t4)).setCell ⟨g, 2, none⟩ (.bool e1)).setCell ⟨g, 3, none⟩ (.bool e2)).setCell ⟨g, 4, none⟩ (.int .i64 d3)).setCell ⟨g, 5, none⟩ (.int .i64 t8)).setCell ⟨g, 6, none⟩ (.int .i64 t9)).setCell ⟨g, 7, none⟩ (.int .i64 t12)).setCell ⟨g, 8, none⟩ (.int .i64 t16)).setCell ⟨g, 9, none⟩ (.slice ao lo co)).setCell ⟨g, 10, none⟩ (.slice ap lp cp)).heap[g]? = some (.cells #[.int .i64 t1, .int .i64 t4, .bool e1, .bool e2, .int .i64 d3, .int .i64 t8, .int .i64 t9, .int .i64 t12, .int .i64 t16, .slice ao lo co, .slice ap lp cp] 39) := heap_setCell_same _ _ 10 _ _ _ h10
    exact h11
  · have hO := hO2.mono s0
    have hne := n1
    exact (((((((((((hO.aside0 hne 0 _).aside0 hne 1 _).aside0 hne 2 _).aside0 hne 3 _).aside0 hne 4 _).aside0 hne 5 _).aside0 hne 6 _).aside0 hne 7 _).aside0 hne 8 _).aside0 hne 9 _).aside0 hne 10 _)
  · have hO := hP.mono (C := w.heap.size + 1) (by omega)
    have hne := n2
    exact (((((((((((hO.aside0 hne 0 _).aside0 hne 1 _).aside0 hne 2 _).aside0 hne 3 _).aside0 hne 4 _).aside0 hne 5 _).aside0 hne 6 _).aside0 hne 7 _).aside0 hne 8 _).aside0 hne 9 _).aside0 hne 10 _)
set_option maxHeartbeats 4000000 in
/-- The block was made ahead of the copies. -/
theorem PkS.first {w X w1 w2 : World} {g : Nat} {t1 t4 : Int} {e1 e2 : Bool} {d3 t8 t9 t12 t16 : Int} {LO LP : List Int} {ao : Option Addr} {lo co : Nat} {ap : Option Addr} {lp cp : Nat} (hr : ResP w X) (hO : OwnB w1 (X.alloc (.cells #[.int .i64 0, .int .i64 0, .bool false, .bool false, .int .i64 0, .int .i64 0, .int .i64 0, .int .i64 0, .int .i64 0, .slice none 0 0, .slice none 0 0] 39)).drew.heap.size (.slice ao lo co) LO) (hbO : Below (X.alloc (.cells #[.int .i64 0, .int .i64 0, .bool false, .bool false, .int .i64 0, .int .i64 0, .int .i64 0, .int .i64 0, .int .i64 0, .slice none 0 0, .slice none 0 0] 39)).drew.heap.size (X.alloc (.cells #[.int .i64 0, .int .i64 0, .bool false, .bool false, .int .i64 0, .int .i64 0, .int .i64 0, .int .i64 0, .int .i64 0, .slice none 0 0, .slice none 0 0] 39)).drew w1) (hP : OwnB w2 w1.heap.size (.slice ap lp cp) LP) (hbP : Below w1.heap.size w1 w2) (hgg : g = X.heap.size) : PkS w (((((((((((w2.setCell ⟨g, 0, none⟩ (.int .i64 t1)).setCell ⟨g, 1, none⟩ (.int .i64 t4)).setCell ⟨g, 2, none⟩ (.bool e1)).setCell ⟨g, 3, none⟩ (.bool e2)).setCell ⟨g, 4, none⟩ (.int .i64 d3)).setCell ⟨g, 5, none⟩ (.int .i64 t8)).setCell ⟨g, 6, none⟩ (.int .i64 t9)).setCell ⟨g, 7, none⟩ (.int .i64 t12)).setCell ⟨g, 8, none⟩ (.int .i64 t16)).setCell ⟨g, 9, none⟩ (.slice ao lo co)).setCell ⟨g, 10, none⟩ (.slice ap lp cp)) g t1 t4 e1 e2 d3 t8 t9 t12 t16 LO LP ao lo co ap lp cp := by
  have hal := (Below.refl X.heap.size X).alloc (Nat.le_refl _) (.cells #[.int .i64 0, .int .i64 0, .bool false, .bool false, .int .i64 0, .int .i64 0, .int .i64 0, .int .i64 0, .int .i64 0, .slice none 0 0, .slice none 0 0] 39)
  have sa := World.size_alloc X (.cells #[.int .i64 0, .int .i64 0, .bool false, .bool false, .int .i64 0, .int .i64 0, .int .i64 0, .int .i64 0, .int .i64 0, .slice none 0 0, .slice none 0 0] 39)
  have hbO0 : Below (X.alloc (.cells #[.int .i64 0, .int .i64 0, .bool false, .bool false, .int .i64 0, .int .i64 0, .int .i64 0, .int .i64 0, .int .i64 0, .slice none 0 0, .slice none 0 0] 39)).heap.size (X.alloc (.cells #[.int .i64 0, .int .i64 0, .bool false, .bool false, .int .i64 0, .int .i64 0, .int .i64 0, .int .i64 0, .int .i64 0, .slice none 0 0, .slice none 0 0] 39)) w1 := ⟨hbO.os, hbO.tape, hbO.output, hbO.size, hbO.block⟩
  have hO0 : OwnB w1 (X.alloc (.cells #[.int .i64 0, .int .i64 0, .bool false, .bool false, .int .i64 0, .int .i64 0, .int .i64 0, .int .i64 0, .int .i64 0, .slice none 0 0, .slice none 0 0] 39)).heap.size (.slice ao lo co) LO := hO
  have hr1 : ResP w w1 := BoxRow.next (BoxRow.next hr hal) hbO0
  have hr2 : ResP w w2 := BoxRow.next hr1 hbP
  have s1 := hbO0.size
  have s2 := hbP.size
  have h0 : w2.heap[g]? = some (.cells #[.int .i64 0, .int .i64 0, .bool false, .bool false, .int .i64 0, .int .i64 0, .int .i64 0, .int .i64 0, .int .i64 0, .slice none 0 0, .slice none 0 0] 39) := by rw [hgg]; exact (hbP.block _ (by omega)).trans ((hbO0.block _ (by omega)).trans (heap_alloc_new _ _))
  have s0 : w.heap.size + 1 ≤ X.heap.size := hr.2.1
  have hg : w.heap.size < g := by rw [hgg]; exact hr.2.1
  have hO2 := hO.next hbP
  have n1 : ∀ k, (Value.slice ao lo co).ownBlock = some k → k ≠ g := fun k hk => by have := (hO0.1.lt k hk).1; omega
  have n2 : ∀ k, (Value.slice ap lp cp).ownBlock = some k → k ≠ g := fun k hk => by have := (hP.1.lt k hk).1; omega
  refine ⟨?_, ?_, hg, ?_, ?_, apart_of hO hP (Nat.le_refl _)⟩
  · have hr := hr2
    exact (ResP.set (ResP.set (ResP.set (ResP.set (ResP.set (ResP.set (ResP.set (ResP.set (ResP.set (ResP.set (ResP.set hr hg 0 _) hg 1 _) hg 2 _) hg 3 _) hg 4 _) hg 5 _) hg 6 _) hg 7 _) hg 8 _) hg 9 _) hg 10 _)
  · have h1 : (w2.setCell ⟨g, 0, none⟩ (.int .i64 t1)).heap[g]? = some (.cells #[.int .i64 t1, .int .i64 0, .bool false, .bool false, .int .i64 0, .int .i64 0, .int .i64 0, .int .i64 0, .int .i64 0, .slice none 0 0, .slice none 0 0] 39) := heap_setCell_same _ _ 0 _ _ _ h0
    have h2 : ((w2.setCell ⟨g, 0, none⟩ (.int .i64 t1)).setCell ⟨g, 1, none⟩ (.int .i64 t4)).heap[g]? = some (.cells #[.int .i64 t1, .int .i64 t4, .bool false, .bool false, .int .i64 0, .int .i64 0, .int .i64 0, .int .i64 0, .int .i64 0, .slice none 0 0, .slice none 0 0] 39) := heap_setCell_same _ _ 1 _ _ _ h1
    have h3 : (((w2.setCell ⟨g, 0, none⟩ (.int .i64 t1)).setCell ⟨g, 1, none⟩ (.int .i64 t4)).setCell ⟨g, 2, none⟩ (.bool e1)).heap[g]? = some (.cells #[.int .i64 t1, .int .i64 t4, .bool e1, .bool false, .int .i64 0, .int .i64 0, .int .i64 0, .int .i64 0, .int .i64 0, .slice none 0 0, .slice none 0 0] 39) := heap_setCell_same _ _ 2 _ _ _ h2
    have h4 : ((((w2.setCell ⟨g, 0, none⟩ (.int .i64 t1)).setCell ⟨g, 1, none⟩ (.int .i64 t4)).setCell ⟨g, 2, none⟩ (.bool e1)).setCell ⟨g, 3, none⟩ (.bool e2)).heap[g]? = some (.cells #[.int .i64 t1, .int .i64 t4, .bool e1, .bool e2, .int .i64 0, .int .i64 0, .int .i64 0, .int .i64 0, .int .i64 0, .slice none 0 0, .slice none 0 0] 39) := heap_setCell_same _ _ 3 _ _ _ h3
    have h5 : (((((w2.setCell ⟨g, 0, none⟩ (.int .i64 t1)).setCell ⟨g, 1, none⟩ (.int .i64 t4)).setCell ⟨g, 2, none⟩ (.bool e1)).setCell ⟨g, 3, none⟩ (.bool e2)).setCell ⟨g, 4, none⟩ (.int .i64 d3)).heap[g]? = some (.cells #[.int .i64 t1, .int .i64 t4, .bool e1, .bool e2, .int .i64 d3, .int .i64 0, .int .i64 0, .int .i64 0, .int .i64 0, .slice none 0 0, .slice none 0 0] 39) := heap_setCell_same _ _ 4 _ _ _ h4
    have h6 : ((((((w2.setCell ⟨g, 0, none⟩ (.int .i64 t1)).setCell ⟨g, 1, none⟩ (.int .i64 t4)).setCell ⟨g, 2, none⟩ (.bool e1)).setCell ⟨g, 3, none⟩ (.bool e2)).setCell ⟨g, 4, none⟩ (.int .i64 d3)).setCell ⟨g, 5, none⟩ (.int .i64 t8)).heap[g]? = some (.cells #[.int .i64 t1, .int .i64 t4, .bool e1, .bool e2, .int .i64 d3, .int .i64 t8, .int .i64 0, .int .i64 0, .int .i64 0, .slice none 0 0, .slice none 0 0] 39) := heap_setCell_same _ _ 5 _ _ _ h5
    have h7 : (((((((w2.setCell ⟨g, 0, none⟩ (.int .i64 t1)).setCell ⟨g, 1, none⟩ (.int .i64 t4)).setCell ⟨g, 2, none⟩ (.bool e1)).setCell ⟨g, 3, none⟩ (.bool e2)).setCell ⟨g, 4, none⟩ (.int .i64 d3)).setCell ⟨g, 5, none⟩ (.int .i64 t8)).setCell ⟨g, 6, none⟩ (.int .i64 t9)).heap[g]? = some (.cells #[.int .i64 t1, .int .i64 t4, .bool e1, .bool e2, .int .i64 d3, .int .i64 t8, .int .i64 t9, .int .i64 0, .int .i64 0, .slice none 0 0, .slice none 0 0] 39) := heap_setCell_same _ _ 6 _ _ _ h6
    have h8 : ((((((((w2.setCell ⟨g, 0, none⟩ (.int .i64 t1)).setCell ⟨g, 1, none⟩ (.int .i64 t4)).setCell ⟨g, 2, none⟩ (.bool e1)).setCell ⟨g, 3, none⟩ (.bool e2)).setCell ⟨g, 4, none⟩ (.int .i64 d3)).setCell ⟨g, 5, none⟩ (.int .i64 t8)).setCell ⟨g, 6, none⟩ (.int .i64 t9)).setCell ⟨g, 7, none⟩ (.int .i64 t12)).heap[g]? = some (.cells #[.int .i64 t1, .int .i64 t4, .bool e1, .bool e2, .int .i64 d3, .int .i64 t8, .int .i64 t9, .int .i64 t12, .int .i64 0, .slice none 0 0, .slice none 0 0] 39) := heap_setCell_same _ _ 7 _ _ _ h7
    have h9 : (((((((((w2.setCell ⟨g, 0, none⟩ (.int .i64 t1)).setCell ⟨g, 1, none⟩ (.int .i64 t4)).setCell ⟨g, 2, none⟩ (.bool e1)).setCell ⟨g, 3, none⟩ (.bool e2)).setCell ⟨g, 4, none⟩ (.int .i64 d3)).setCell ⟨g, 5, none⟩ (.int .i64 t8)).setCell ⟨g, 6, none⟩ (.int .i64 t9)).setCell ⟨g, 7, none⟩ (.int .i64 t12)).setCell ⟨g, 8, none⟩ (.int .i64 t16)).heap[g]? = some (.cells #[.int .i64 t1, .int .i64 t4, .bool e1, .bool e2, .int .i64 d3, .int .i64 t8, .int .i64 t9, .int .i64 t12, .int .i64 t16, .slice none 0 0, .slice none 0 0] 39) := heap_setCell_same _ _ 8 _ _ _ h8
    have h10 : ((((((((((w2.setCell ⟨g, 0, none⟩ (.int .i64 t1)).setCell ⟨g, 1, none⟩ (.int .i64 t4)).setCell ⟨g, 2, none⟩ (.bool e1)).setCell ⟨g, 3, none⟩ (.bool e2)).setCell ⟨g, 4, none⟩ (.int .i64 d3)).setCell ⟨g, 5, none⟩ (.int .i64 t8)).setCell ⟨g, 6, none⟩ (.int .i64 t9)).setCell ⟨g, 7, none⟩ (.int .i64 t12)).setCell ⟨g, 8, none⟩ (.int .i64 t16)).setCell ⟨g, 9, none⟩ (.slice ao lo co)).heap[g]? = some (.cells #[.int .i64 t1, .int .i64 t4, .bool e1, .bool e2, .int .i64 d3, .int .i64 t8, .int .i64 t9, .int .i64 t12, .int .i64 t16, .slice ao lo co, .slice none 0 0] 39) := heap_setCell_same _ _ 9 _ _ _ h9
    have h11 : (((((((((((w2.setCell ⟨g, 0, none⟩ (.int .i64 t1)).setCell ⟨g, 1, none⟩ (.int .i64 t4)).setCell ⟨g, 2, none⟩ (.bool e1)).setCell ⟨g, 3, none⟩ (.bool e2)).setCell ⟨g, 4, none⟩ (.int .i64 d3)).setCell ⟨g, 5, none⟩ (.int .i64 t8)).setCell ⟨g, 6, none⟩ (.int .i64 t9)).setCell ⟨g, 7, none⟩ (.int .i64 t12)).setCell ⟨g, 8, none⟩ (.int .i64 t16)).setCell ⟨g, 9, none⟩ (.slice ao lo co)).setCell ⟨g, 10, none⟩ (.slice ap lp cp)).heap[g]? = some (.cells #[.int .i64 t1, .int .i64 t4, .bool e1, .bool e2, .int .i64 d3, .int .i64 t8, .int .i64 t9, .int .i64 t12, .int .i64 t16, .slice ao lo co, .slice ap lp cp] 39) := heap_setCell_same _ _ 10 _ _ _ h10
    exact h11
  · have hO := (OwnB.next hO0 hbP).mono (C := w.heap.size + 1) (by omega)
    have hne := n1
    exact (((((((((((hO.aside0 hne 0 _).aside0 hne 1 _).aside0 hne 2 _).aside0 hne 3 _).aside0 hne 4 _).aside0 hne 5 _).aside0 hne 6 _).aside0 hne 7 _).aside0 hne 8 _).aside0 hne 9 _).aside0 hne 10 _)
  · have hO := hP.mono (C := w.heap.size + 1) (by omega)
    have hne := n2
    exact (((((((((((hO.aside0 hne 0 _).aside0 hne 1 _).aside0 hne 2 _).aside0 hne 3 _).aside0 hne 4 _).aside0 hne 5 _).aside0 hne 6 _).aside0 hne 7 _).aside0 hne 8 _).aside0 hne 9 _).aside0 hne 10 _)
theorem below_11 {w w' : World} {x0 x1 x2 x3 x4 x5 x6 x7 x8 x9 x10 : Value} (h : Below w.heap.size w w') : Below w.heap.size w (((((((((((w'.setCell ⟨w.heap.size, 0, none⟩ x0).setCell ⟨w.heap.size, 1, none⟩ x1).setCell ⟨w.heap.size, 2, none⟩ x2).setCell ⟨w.heap.size, 3, none⟩ x3).setCell ⟨w.heap.size, 4, none⟩ x4).setCell ⟨w.heap.size, 5, none⟩ x5).setCell ⟨w.heap.size, 6, none⟩ x6).setCell ⟨w.heap.size, 7, none⟩ x7).setCell ⟨w.heap.size, 8, none⟩ x8).setCell ⟨w.heap.size, 9, none⟩ x9).setCell ⟨w.heap.size, 10, none⟩ x10) := (((((((((((h.setCell (p := ⟨w.heap.size, 0, none⟩) (Nat.le_refl _) x0).setCell (p := ⟨w.heap.size, 1, none⟩) (Nat.le_refl _) x1).setCell (p := ⟨w.heap.size, 2, none⟩) (Nat.le_refl _) x2).setCell (p := ⟨w.heap.size, 3, none⟩) (Nat.le_refl _) x3).setCell (p := ⟨w.heap.size, 4, none⟩) (Nat.le_refl _) x4).setCell (p := ⟨w.heap.size, 5, none⟩) (Nat.le_refl _) x5).setCell (p := ⟨w.heap.size, 6, none⟩) (Nat.le_refl _) x6).setCell (p := ⟨w.heap.size, 7, none⟩) (Nat.le_refl _) x7).setCell (p := ⟨w.heap.size, 8, none⟩) (Nat.le_refl _) x8).setCell (p := ⟨w.heap.size, 9, none⟩) (Nat.le_refl _) x9).setCell (p := ⟨w.heap.size, 10, none⟩) (Nat.le_refl _) x10)
theorem own_11 {w w' : World} {v : Value} {zs : List Int} {x0 x1 x2 x3 x4 x5 x6 x7 x8 x9 x10 : Value} (h : OwnB w' (w.heap.size + 1) v zs) : OwnB (((((((((((w'.setCell ⟨w.heap.size, 0, none⟩ x0).setCell ⟨w.heap.size, 1, none⟩ x1).setCell ⟨w.heap.size, 2, none⟩ x2).setCell ⟨w.heap.size, 3, none⟩ x3).setCell ⟨w.heap.size, 4, none⟩ x4).setCell ⟨w.heap.size, 5, none⟩ x5).setCell ⟨w.heap.size, 6, none⟩ x6).setCell ⟨w.heap.size, 7, none⟩ x7).setCell ⟨w.heap.size, 8, none⟩ x8).setCell ⟨w.heap.size, 9, none⟩ x9).setCell ⟨w.heap.size, 10, none⟩ x10) w.heap.size v zs := OwnB.mono (((((((((((h.setBelow (a := ⟨w.heap.size, 0, none⟩) (Nat.lt_succ_self _) x0).setBelow (a := ⟨w.heap.size, 1, none⟩) (Nat.lt_succ_self _) x1).setBelow (a := ⟨w.heap.size, 2, none⟩) (Nat.lt_succ_self _) x2).setBelow (a := ⟨w.heap.size, 3, none⟩) (Nat.lt_succ_self _) x3).setBelow (a := ⟨w.heap.size, 4, none⟩) (Nat.lt_succ_self _) x4).setBelow (a := ⟨w.heap.size, 5, none⟩) (Nat.lt_succ_self _) x5).setBelow (a := ⟨w.heap.size, 6, none⟩) (Nat.lt_succ_self _) x6).setBelow (a := ⟨w.heap.size, 7, none⟩) (Nat.lt_succ_self _) x7).setBelow (a := ⟨w.heap.size, 8, none⟩) (Nat.lt_succ_self _) x8).setBelow (a := ⟨w.heap.size, 9, none⟩) (Nat.lt_succ_self _) x9).setBelow (a := ⟨w.heap.size, 10, none⟩) (Nat.lt_succ_self _) x10) (Nat.le_succ _)
end Go.Proofs.YtakoagfeiolkjaaDoor
