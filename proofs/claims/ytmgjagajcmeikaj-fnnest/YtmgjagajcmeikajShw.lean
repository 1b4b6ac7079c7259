/-
Contracts of functions of this seat.
-/
import Derived.Test.YtmgjagajcmeikajRows
import Derived.WalkKit
import Derived.ProofKit
import Derived.OpenShut
import Derived.Test.YtmgjagajcmeikajDrw
import Derived.ArgAppend
namespace Go.Proofs.Ytmgjagajcmeikaj
open Go.ChangeShapes Go.WideShapes Go.ChangeAt Go.RowKit
set_option linter.unusedVariables false
attribute [local go_sem] and_255_i64
/-- The text of an address. -/
def showA (a : Int) : ByteArray :=
  (⟨decL (a / 16777216)⟩ : ByteArray) ++ ⟨#[46]⟩ ++ ⟨decL (a / 65536 % 256)⟩ ++ ⟨#[46]⟩ ++ ⟨decL (a / 256 % 256)⟩ ++ ⟨#[46]⟩ ++ ⟨decL (a % 256)⟩
theorem showA_size (a : Int) : (showA a).size ≤ 15 := by
  unfold showA
  rw [ByteArray.size_append, ByteArray.size_append, ByteArray.size_append, ByteArray.size_append, ByteArray.size_append, ByteArray.size_append]
  have h1 := decL_size (n := a / 16777216)
  have h2 := decL_size (n := a / 65536 % 256)
  have h3 := decL_size (n := a / 256 % 256)
  have h4 := decL_size (n := a % 256)
  have h5 : (⟨#[46]⟩ : ByteArray).size = 1 := rfl
  omega
theorem specShowA_no (a : Int) (w : World) (h : adrB a = false) :
    Calls Try.prog 16 #[.int .i64 a] w fun e w' => e = .returned (.tuple #[.string ⟨#[]⟩, .int .i64 1]) ∧ w' = w := by
  go_enter Try.func16, Try.ntmps16
  go_wp2_with (go_at_call 25; refine (specAddrOK_walk _ _).mono ?_; rintro e w' ⟨rfl, rfl⟩)
  go_ret2
  exact ⟨rfl, rfl⟩
set_option maxHeartbeats 1000000 in
theorem specShowA_yes (a : Int) (w : World) (h : adrB a = true) :
    Calls Try.prog 16 #[.int .i64 a] w fun e w' => e = .returned (.tuple #[.string (showA a), .int .i64 0]) ∧ Below w.heap.size w w' := by
  obtain ⟨h0, h1⟩ := adrB_iff.1 h
  have z1 := decL_size (n := a / 16777216)
  have z2 := decL_size (n := a / 65536 % 256)
  have z3 := decL_size (n := a / 256 % 256)
  have z4 := decL_size (n := a % 256)
  have c1 := fun w => dec_walk (a / 16777216) w (by omega) (by omega)
  have c2 := fun w => dec_walk (a / 65536 % 256) w (by omega) (by omega)
  have c3 := fun w => dec_walk (a / 256 % 256) w (by omega) (by omega)
  have c4 := fun w => dec_walk (a % 256) w (by omega) (by omega)
  have HE : Hid (showA a = (⟨decL (a / 16777216)⟩ : ByteArray) ++ ⟨#[46]⟩ ++ ⟨decL (a / 65536 % 256)⟩ ++ ⟨#[46]⟩ ++ ⟨decL (a / 256 % 256)⟩ ++ ⟨#[46]⟩ ++ ⟨decL (a % 256)⟩) := rfl
  generalize (⟨decL (a / 16777216)⟩ : ByteArray) = t1 at *
  generalize (⟨decL (a / 65536 % 256)⟩ : ByteArray) = t2 at *
  generalize (⟨decL (a / 256 % 256)⟩ : ByteArray) = t3 at *
  generalize (⟨decL (a % 256)⟩ : ByteArray) = t4 at *
  have C1 := hide c1
  have C2 := hide c2
  have C3 := hide c3
  have C4 := hide c4
  clear c1 c2 c3 c4
  go_enter Try.func16, Try.ntmps16
  go_wp2_with fail
  refine (specAddrOK_walk _ _).mono ?_
  rw [h]
  rintro e w0 ⟨rfl, hw0⟩
  rw [hw0]
  clear hw0
  go_wp2_with fail
  refine (C1.out _).mono ?_
  rintro e w1 ⟨rfl, hb1⟩
  go_wp2_with fail
  refine (C2.out _).mono ?_
  rintro e w2 ⟨rfl, hb2⟩
  go_wp2_with fail
  refine (C3.out _).mono ?_
  rintro e w3 ⟨rfl, hb3⟩
  go_wp2_with fail
  refine (C4.out _).mono ?_
  rintro e w4 ⟨rfl, hb4⟩
  go_wp2_with fail
  go_ret2
  have s1 := hb1.size
  have s2 := hb2.size
  have s3 := hb3.size
  exact ⟨by rw [HE.out]; rfl, ((hb1.trans (hb2.mono (by omega))).trans (hb3.mono (by omega))).trans (hb4.mono (by omega))⟩

def showP (a b : Int) : ByteArray := showA a ++ (⟨#[47]⟩ : ByteArray) ++ ⟨decL b⟩
set_option maxHeartbeats 1000000 in
theorem specShowP_no (a b : Int) (w : World) (h : prefB a b = false) :
    Calls Try.prog 6 #[.agg #[.int .i64 a, .int .i64 b]] w fun e w' => e = .returned (.tuple #[.string ⟨#[]⟩, .int .i64 1]) ∧ Below w.heap.size w w' := by
  go_enter Try.func6, Try.ntmps6
  go_wp2_with fail
  obtain ⟨hbW, hc0, hc1⟩ := box_facts w (.int .i64 a) (.int .i64 b) 24
  generalize w.alloc (.cells #[.int .i64 a, .int .i64 b] 24) = W at *
  refine (specPrefixOK_walk a b _).mono ?_
  rw [h]
  rintro e w1 ⟨rfl, hb1⟩
  go_wp2_with fail
  go_ret2
  exact ⟨rfl, hbW.trans (hb1.mono hbW.size)⟩
set_option maxHeartbeats 1000000 in
theorem specShowP_yes (a b : Int) (w : World) (h : prefB a b = true) :
    Calls Try.prog 6 #[.agg #[.int .i64 a, .int .i64 b]] w fun e w' => e = .returned (.tuple #[.string (showP a b), .int .i64 0]) ∧ Below w.heap.size w w' := by
  obtain ⟨h0, h1, ha, hm⟩ := prefB_iff.1 h
  have z1 := showA_size a
  have z2 := decL_size (n := b)
  have c1 := fun w => specShowA_yes a w ha
  have c2 := fun w => dec_walk b w h0 (by omega)
  have HE : Hid (showP a b = showA a ++ (⟨#[47]⟩ : ByteArray) ++ ⟨decL b⟩) := rfl
  generalize (⟨decL b⟩ : ByteArray) = t2 at *
  generalize showA a = t1 at *
  have C1 := hide c1
  have C2 := hide c2
  clear c1 c2 hm
  go_enter Try.func6, Try.ntmps6
  go_wp2_with fail
  obtain ⟨hbW, hc0, hc1⟩ := box_facts w (.int .i64 a) (.int .i64 b) 24
  have hsW : w.heap.size < (w.alloc (.cells #[.int .i64 a, .int .i64 b] 24)).heap.size := by rw [World.size_alloc]; omega
  generalize w.alloc (.cells #[.int .i64 a, .int .i64 b] 24) = W at *
  refine (specPrefixOK_walk a b _).mono ?_
  rw [h]
  rintro e w1 ⟨rfl, hb1⟩
  have g0 : w1.cell? ⟨w.heap.size, 0, none⟩ = some (.int .i64 a) := by rw [hb1.cell (p := ⟨w.heap.size, 0, none⟩) hsW]; exact hc0
  have g1 : w1.cell? ⟨w.heap.size, 1, none⟩ = some (.int .i64 b) := by rw [hb1.cell (p := ⟨w.heap.size, 1, none⟩) hsW]; exact hc1
  have s1 := hb1.size
  clear hc0 hc1 h
  go_wp2_with fail
  refine (C1.out _).mono ?_
  rintro e w2 ⟨rfl, hb2⟩
  have k1 : w2.cell? ⟨w.heap.size, 1, none⟩ = some (.int .i64 b) := by rw [hb2.cell (p := ⟨w.heap.size, 1, none⟩) (by show w.heap.size < w1.heap.size; omega)]; exact g1
  clear g0 g1
  go_wp2_with fail
  refine (C2.out _).mono ?_
  rintro e w3 ⟨rfl, hb3⟩
  go_wp2_with fail
  go_ret2
  have sW := hbW.size
  have s2 := hb2.size
  exact ⟨by rw [HE.out]; rfl, ((hbW.trans (hb1.mono (by omega))).trans (hb2.mono (by omega))).trans (hb3.mono (by omega))⟩

theorem sz_dvd {b d : Int} (h0 : 0 ≤ b) (h : b ≤ d) (h1 : d ≤ 32) : ∃ m : Int, 0 < m ∧ sz b = sz d * m := by
  refine ⟨2 ^ (d.toNat - b.toNat), Int.pow_pos (by decide), ?_⟩
  unfold sz
  rw [← Int.pow_add, show 32 - d.toNat + (d.toNat - b.toNat) = 32 - b.toNat by omega]
theorem sz_top {b : Int} (h0 : 0 ≤ b) (h1 : b ≤ 32) : ∃ m : Int, 0 < m ∧ 4294967296 = sz b * m := by
  obtain ⟨m, hm, e⟩ := sz_dvd (b := 0) (d := b) (by omega) h0 h1
  exact ⟨m, hm, e⟩
/-- A valid prefix ends within the addresses. -/
theorem end_le {a b : Int} (h : prefB a b = true) : a + sz b ≤ 4294967296 := by
  obtain ⟨h0, h1, ha, hm⟩ := prefB_iff.1 h
  obtain ⟨k0, k1⟩ := adrB_iff.1 ha
  obtain ⟨m, hm0, e⟩ := sz_top h0 h1
  have hs := sz_pos b
  have ea := Int.mul_ediv_add_emod a (sz b)
  rw [hm] at ea
  have hlt : sz b * (a / sz b) < sz b * m := by rw [← e]; omega
  have hlt2 : a / sz b < m := Int.lt_of_mul_lt_mul_left hlt (by omega)
  have : sz b * (a / sz b + 1) ≤ sz b * m := Int.mul_le_mul_of_nonneg_left (by omega) (by omega)
  rw [Int.mul_add, Int.mul_one, ← e] at this
  omega
theorem div_end {a s : Int} (hs : 0 < s) (hm : a % s = 0) : (a + s - 1) / s = a / s := by
  have ea := Int.mul_ediv_add_emod a s
  rw [hm] at ea
  have : a + s - 1 = (s - 1) + (a / s) * s := by rw [Int.mul_comm]; omega
  rw [this, Int.add_mul_ediv_right _ _ (by omega), Int.ediv_eq_zero_of_lt (by omega) (by omega)]
  omega
theorem div_next {a s : Int} (hs : 0 < s) (hm : a % s = 0) : (a + s) / s = a / s + 1 := by
  have : a + s = a + 1 * s := by omega
  rw [this, Int.add_mul_ediv_right _ _ (by omega)]
theorem nest_first {a b : Int} (h : prefB a b = true) : hasB a b a = true := by
  obtain ⟨h0, h1, ha, hm⟩ := prefB_iff.1 h
  rw [hasB_yes h ha]; simp
theorem nest_last {a b : Int} (h : prefB a b = true) : hasB a b (lastOf a b) = true := by
  obtain ⟨h0, h1, ha, hm⟩ := prefB_iff.1 h
  obtain ⟨k0, k1⟩ := adrB_iff.1 ha
  have hs := sz_pos b
  have he := end_le h
  rw [lastOf_yes h, hasB_yes h (adrB_iff.2 ⟨by omega, by omega⟩), div_end hs hm]; simp
theorem nest_behind {a b : Int} (h : prefB a b = true) : hasB a b (lastOf a b + 1) = false := by
  obtain ⟨h0, h1, ha, hm⟩ := prefB_iff.1 h
  have hs := sz_pos b
  rw [lastOf_yes h, show a + sz b - 1 + 1 = a + sz b by omega]
  by_cases hx : adrB (a + sz b) = true
  · rw [hasB_yes h hx, div_next hs hm]; rw [beq_eq_false_iff_ne]; omega
  · exact hasB_adr (by simpa using hx)
/-- Of two valid prefixes the wider one has both ends of the other, or none; and what the narrower one has of the wider tells that it lies in it. -/
theorem nest_wide {a b c d : Int} (hp : prefB a b = true) (hq : prefB c d = true) (hbd : b ≤ d) :
    hasB a b (lastOf c d) = hasB a b c ∧ (hasB c d a = true → hasB a b c = true) ∧ (hasB c d (lastOf a b) = true → hasB a b c = true) := by
  obtain ⟨h0, h1, ha, hm⟩ := prefB_iff.1 hp
  obtain ⟨g0, g1, hc, hn⟩ := prefB_iff.1 hq
  obtain ⟨k0, k1⟩ := adrB_iff.1 ha
  obtain ⟨l0, l1⟩ := adrB_iff.1 hc
  have hs := sz_pos b
  have ht := sz_pos d
  have he := end_le hp
  have hf := end_le hq
  obtain ⟨m, hm0, em⟩ := sz_dvd h0 hbd g1
  have dd : ∀ z : Int, z / sz b = z / sz d / m := fun z => by rw [em, Int.ediv_ediv_of_nonneg (by omega)]
  have hlq : adrB (lastOf c d) = true := by rw [lastOf_yes hq]; exact adrB_iff.2 ⟨by omega, by omega⟩
  have hlp : adrB (lastOf a b) = true := by rw [lastOf_yes hp]; exact adrB_iff.2 ⟨by omega, by omega⟩
  refine ⟨?_, fun h => ?_, fun h => ?_⟩
  · rw [hasB_yes hp hlq, hasB_yes hp hc, dd (lastOf c d), lastOf_yes hq, div_end ht hn, ← dd c]
  · rw [hasB_yes hq ha, beq_iff_eq] at h
    rw [hasB_yes hp hc, beq_iff_eq, dd c, dd a, h]
  · rw [hasB_yes hq hlp, beq_iff_eq] at h
    rw [hasB_yes hp hc, beq_iff_eq, dd c, ← h, ← dd, lastOf_yes hp, div_end hs hm]

def spC (a b : Int) : Int := if prefB a b = true then 0 else 1
def spS (a b : Int) : ByteArray := if prefB a b = true then showP a b else ⟨#[]⟩
theorem specShowP_walk (a b : Int) (w : World) :
    Calls Try.prog 6 #[.agg #[.int .i64 a, .int .i64 b]] w fun e w' => e = .returned (.tuple #[.string (spS a b), .int .i64 (spC a b)]) ∧ Below w.heap.size w w' := by
  by_cases h : prefB a b = true
  · have := specShowP_yes a b w h
    unfold spS spC; rw [if_pos h, if_pos h]; exact this
  · have := specShowP_no a b w (by simpa using h)
    unfold spS spC; rw [if_neg h, if_neg h]; exact this
theorem spC_yes {a b : Int} (h : prefB a b = true) : spC a b = 0 := by unfold spC; rw [if_pos h]
theorem spC_no {a b : Int} (h : prefB a b = false) : spC a b = 1 := by unfold spC; rw [if_neg (by simp [h])]
/-- Two prefixes in blocks of their own. -/
def PQ (w0 : World) (gp gq : Nat) (a b c d : Int) (w : World) : Prop :=
  Below w0.heap.size w0 w ∧ gp < w.heap.size ∧ gq < w.heap.size ∧ w.cell? ⟨gp, 0, none⟩ = some (.int .i64 a) ∧ w.cell? ⟨gp, 1, none⟩ = some (.int .i64 b) ∧ w.cell? ⟨gq, 0, none⟩ = some (.int .i64 c) ∧ w.cell? ⟨gq, 1, none⟩ = some (.int .i64 d)
theorem PQ.below {w0 w w' : World} {gp gq : Nat} {a b c d : Int} (h : PQ w0 gp gq a b c d w) (hb : Below w.heap.size w w') : PQ w0 gp gq a b c d w' := by
  obtain ⟨h0, h1, h2, h3, h4, h5, h6⟩ := h
  refine ⟨h0.trans (hb.mono h0.size), Nat.lt_of_lt_of_le h1 hb.size, Nat.lt_of_lt_of_le h2 hb.size, ?_, ?_, ?_, ?_⟩
  · rw [hb.cell (p := ⟨gp, 0, none⟩) h1]; exact h3
  · rw [hb.cell (p := ⟨gp, 1, none⟩) h1]; exact h4
  · rw [hb.cell (p := ⟨gq, 0, none⟩) h2]; exact h5
  · rw [hb.cell (p := ⟨gq, 1, none⟩) h2]; exact h6

theorem Try.infoB : (Try.prog.info? 5).map (fun i => (i.zero, i.size, i.bytes)) = some (some (.int .u8 0), 1, 1) := by kernel_rfl
def bval (zs : List Int) : List Value := zs.map (Value.int .u8)
/-- A slice of bytes zs in memory of this call's own, from block B on. -/
def OwnB (w : World) (B : Nat) (v : Value) (zs : List Int) : Prop := w.ownsRow B 5 1 v zs.length (bval zs) ∧ ∀ z ∈ zs, 0 ≤ z ∧ z ≤ 255
theorem bval_get (zs : List Int) (j : Nat) (h : j < zs.length) : (bval zs)[j]? = some (.int .u8 (zs.getD j 0)) := by
  unfold bval; rw [List.getElem?_map, List.getElem?_eq_getElem h, List.getD_eq_getElem?_getD, List.getElem?_eq_getElem h]; rfl
theorem OwnB.arr {w : World} {B : Nat} {v : Value} {zs : List Int} (h : OwnB w B v zs) : ∃ a cap, v = .slice a zs.length cap ∧ Arr w a zs ∧ zs.length ≤ cap := by
  rcases h.1.2 with ⟨hv, hn⟩ | ⟨g, cap, cur, hv, hB, hg, hnc, hcm, hcs, htake⟩
  · have : zs = [] := List.length_eq_zero_iff.1 hn
    subst this
    exact ⟨none, 0, hv, ⟨by simp, fun j hj => by simp at hj⟩, Nat.le_refl _⟩
  · refine ⟨some ⟨g, 0, none⟩, cap, hv, ⟨h.2, fun j hj => ⟨g, 0, rfl, ?_, ?_⟩⟩, hnc⟩
    · by_cases hlt : g < w.heap.size
      · exact hlt
      · rw [Array.getElem?_eq_none (by omega)] at hg; cases hg
    · have hc := (hv ▸ h.1 : w.ownsRow B 5 1 (.slice (some ⟨g, 0, none⟩) zs.length cap) zs.length (bval zs)).cellAt j (by omega)
      rw [Nat.zero_add, hc, bval_get zs j hj]
theorem oneCells (zs : List Int) : ∀ u ∈ bval zs, u.oneCell' = true := by
  intro u hu
  unfold bval at hu
  obtain ⟨z, _, rfl⟩ := List.mem_map.1 hu
  rfl
theorem OwnB.app {w : World} {B : Nat} {v : Value} {xs ys : List Int} {n : Nat} (h : w.ownsRow B 5 1 v n (bval xs ++ bval ys)) (hn : n = xs.length + ys.length) (hx : ∀ z ∈ xs, 0 ≤ z ∧ z ≤ 255) (hy : ∀ z ∈ ys, 0 ≤ z ∧ z ≤ 255) : OwnB w B v (xs ++ ys) := by
  refine ⟨?_, fun z hz => ?_⟩
  · have e : bval (xs ++ ys) = bval xs ++ bval ys := by unfold bval; rw [List.map_append]
    rw [e, List.length_append, ← hn]; exact h
  · rcases List.mem_append.1 hz with h | h
    · exact hx z h
    · exact hy z h
theorem news_arr {w : World} {b off : Nat} {zs : List Int} (h : Arr w (some ⟨b, off, none⟩) zs) : ∀ j u, (bval zs)[j]? = some u → w.cell? ((⟨b, off, none⟩ : Addr).add j) = some u := by
  intro j u hu
  have hj : j < zs.length := by
    have := (List.getElem?_eq_some_iff.1 hu).1
    simpa [bval] using this
  obtain ⟨b', off', e, _, hc⟩ := h.2 j hj
  simp only [Option.some.injEq, Addr.mk.injEq, and_true] at e
  obtain ⟨rfl, rfl⟩ := e
  rw [bval_get zs j hj] at hu
  rw [Addr.add_lit, hc]; exact hu
theorem cell_one (w : World) (z : Int) (t : Nat) : ∀ j u, (bval [z])[j]? = some u → (w.alloc (.cells #[.int .u8 z] t)).cell? ((⟨w.heap.size, 0, none⟩ : Addr).add j) = some u := by
  intro j u hu
  match j with
  | 0 =>
    simp [bval] at hu
    subst hu
    rw [Addr.add_lit]
    exact cell_of_row _ w.heap.size 0 _ t (0, 0) (heap_alloc_new w _)
  | k + 1 => simp [bval] at hu

/-- What the walk is told of a slice of integers that came in: nil, or a row of 'cap' cells, the first 'len' of them its elements. -/
def IsRow (k : IntKind) (w : World) (a : Option Addr) (len cap : Nat) (zs : List Int) : Prop :=
  (a = none ∧ len = 0 ∧ cap = 0 ∧ zs = []) ∨
  ∃ x, a = some x ∧ len ≤ cap ∧ cap ≤ maxLen ∧ zs.length = cap ∧ (∀ i, i < zs.length → w.cell? (x.add i) = some (.int k (zs.getD i 0))) ∧ ∀ n ∈ zs, (Lit.int k n).wf = true
theorem cell_lt {w : World} {b o : Nat} {v : Value} (h : w.cell? ⟨b, o, none⟩ = some v) : b < w.heap.size := by
  by_cases hb : b < w.heap.size
  · exact hb
  · exfalso
    unfold World.cell? at h
    simp [Array.getElem?_eq_none (Nat.le_of_not_lt hb)] at h
theorem IsRow.arr {w : World} {a : Option Addr} {len cap : Nat} {zs : List Int} (h : IsRow .u8 w a len cap zs) : ∃ ys : List Int, ys.length = len ∧ Arr w a ys := by
  rcases h with ⟨rfl, rfl, rfl, rfl⟩ | ⟨x, rfl, hl, hm, hz, hcell, hwz⟩
  · exact ⟨[], rfl, by simp, fun j hj => by simp at hj⟩
  · refine ⟨zs.take len, by simp; omega, ?_, ?_⟩
    · intro z hz'
      have := hwz z (List.mem_of_mem_take hz')
      simpa [Lit.wf, IntKind.min, IntKind.max, IntKind.signed, IntKind.bits] using this
    · intro j hj
      have hj' : j < len := by simp at hj; omega
      obtain ⟨b, off, rfl, hc⟩ := ints_at hcell (by omega)
      have h1 := hc j (by omega)
      refine ⟨b, off, rfl, cell_lt h1, ?_⟩
      rw [h1, List.getD_eq_getElem?_getD, List.getD_eq_getElem?_getD, List.getElem?_take, if_pos hj']
end Go.Proofs.Ytmgjagajcmeikaj
