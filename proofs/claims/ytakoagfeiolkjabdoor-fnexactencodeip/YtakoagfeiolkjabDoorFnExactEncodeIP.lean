/-
At every input the law FnExactEncodeIP of the landed program answers true, and its arguments read afterwards as before.
Condition: the package-level tables that the card lists are as the program lays them (the card ties them to the text, within the pruned copy).
-/
import Derived.Test.YtakoagfeiolkjabDoorRows
import Derived.WalkKit
import Derived.ProofKit
import Derived.OpenShut
import Derived.Test.YtakoagfeiolkjabDoorIeb
import Derived.Test.YtakoagfeiolkjabDoorLei
import Derived.Lib.SmallJoins
import Derived.ShutString
import Derived.ChangeOld
import Derived.Below
import Derived.Test.YtakoagfeiolkjabDoorCards
import Derived.Test.YtakoagfeiolkjabDoorTie
import Derived.Lib.LaidTab
import Derived.Stop.LaidErr
import Derived.LaidMore
import Derived.SevenTiedAt
import Derived.LaidLaws
import Derived.LaidHandle
namespace Go.Proofs.YtakoagfeiolkjabDoor
open Go.ChangeShapes Go.WideShapes Go.ChangeAt Go.RowKit
set_option linter.unusedVariables false
set_option maxRecDepth 100000
theorem or_nat (a b : Nat) (ha : a < 65536) (hb' : b < 65536) : bits .or .i64 (a : Int) (b : Int) = ((a ||| b : Nat) : Int) := by
  have hb : IntKind.i64.bits = 64 := rfl
  have e0 : (2 : Nat) ^ 64 = 18446744073709551616 := by decide
  have e1 : a % 18446744073709551616 = a := Nat.mod_eq_of_lt (by omega)
  have e2 : b % 18446744073709551616 = b := Nat.mod_eq_of_lt (by omega)
  have h2 : a ||| b < 2 ^ 16 := Nat.or_lt_two_pow (by omega) (by omega)
  simp only [bits, BitVec.ofInt_natCast, BitVec.toNat_or, BitVec.toNat_ofNat, hb, e0, e1, e2]
  exact wrap_i64' _ (by omega) (by omega)
theorem or_two_pow (a k x : Nat) (h : x < 2 ^ k) : 2 ^ k * a ||| x = 2 ^ k * a + x := (Nat.two_pow_add_eq_or_of_lt h a).symm
theorem hdF_is (n0 : Nat) (h : n0 ≤ 40) : hdF n0 = 64 + (20 + (n0 : Int)) / 4 := by
  unfold hdF
  have e : (20 + (n0 : Int)) / 4 = (((20 + n0) / 4 : Nat) : Int) := by omega
  rw [e, show (64 : Int) = ((64 : Nat) : Int) from rfl, or_nat _ _ (by omega) (by omega)]
  have h2 := or_two_pow 1 6 ((20 + n0) / 4) (by omega)
  rw [show 2 ^ 6 * 1 = 64 from rfl] at h2
  rw [h2]
  omega
theorem hdL_is (x2 x3 : Bool) (x4 : Int) (h0 : 0 ≤ x4) (h1 : x4 ≤ 65528) : hdL x2 x3 x4 = (if x2 then 16384 else 0) + (if x3 then 8192 else 0) + x4 / 8 := by
  obtain ⟨n, rfl⟩ := Int.eq_ofNat_of_zero_le h0
  have hn : n / 8 < 8192 := by omega
  have e : wrap64 ((n : Int).tdiv 8) = ((n / 8 : Nat) : Int) := by
    rw [show (n : Int).tdiv 8 = ((n / 8 : Nat) : Int) from rfl]
    unfold wrap64
    omega
  have o1 : bits .or .i64 ((n / 8 : Nat) : Int) 16384 = ((16384 + n / 8 : Nat) : Int) := by
    rw [show (16384 : Int) = ((16384 : Nat) : Int) from rfl, or_nat _ _ (by omega) (by omega), Nat.or_comm]
    have h2 := or_two_pow 1 14 (n / 8) (by omega)
    rw [show 2 ^ 14 * 1 = 16384 from rfl] at h2
    rw [h2]
  have o2 : bits .or .i64 ((n / 8 : Nat) : Int) 8192 = ((8192 + n / 8 : Nat) : Int) := by
    rw [show (8192 : Int) = ((8192 : Nat) : Int) from rfl, or_nat _ _ (by omega) (by omega), Nat.or_comm]
    have h2 := or_two_pow 1 13 (n / 8) (by omega)
    rw [show 2 ^ 13 * 1 = 8192 from rfl] at h2
    rw [h2]
  have o3 : bits .or .i64 ((16384 + n / 8 : Nat) : Int) 8192 = ((24576 + n / 8 : Nat) : Int) := by
    rw [show (8192 : Int) = ((8192 : Nat) : Int) from rfl, or_nat _ _ (by omega) (by omega)]
    have h1 := or_two_pow 1 14 (n / 8) (by omega)
    rw [show 2 ^ 14 * 1 = 16384 from rfl] at h1
    have h2 := or_two_pow 3 13 (n / 8) (by omega)
    rw [show 2 ^ 13 * 3 = 24576 from rfl] at h2
    rw [← h1, Nat.or_assoc, Nat.or_comm (n / 8) 8192, ← Nat.or_assoc, show 16384 ||| 8192 = 24576 from rfl, h2]
  unfold hdL
  rw [e, o1]
  cases x2 <;> cases x3
  · simp
  · rw [if_pos rfl, if_neg (by decide), if_neg (by decide), if_pos rfl, o2]; omega
  · rw [if_neg (by decide), if_pos rfl, if_pos rfl, if_neg (by decide)]; omega
  · rw [if_pos rfl, if_pos rfl, if_pos rfl, if_pos rfl, o3]; omega
theorem putL_one (v : Int) (h0 : 0 ≤ v) (h1 : v ≤ 255) : putL v 1 = [v] := by
  unfold putL byteOf
  simp
  omega
theorem putL_two (v : Int) (h0 : 0 ≤ v) (h1 : v ≤ 65535) : putL v 2 = [v / 256, v % 256] := by
  unfold putL byteOf
  simp [List.range_succ]
  omega
theorem hdB_is (x0 x1 : Int) (x2 x3 : Bool) (x4 x5 x6 x7 x8 : Int) (z0 : List Int) (n1 N : Nat) (h : pkOK x0 x1 x4 x5 x6 x7 x8 z0.length = true) (hN : 20 + (z0.length : Int) + (n1 : Int) = (N : Int)) : hdB (hdF z0.length) x0 (N : Int) x1 (hdL x2 x3 x4) x5 x6 x7 x8 z0 = ipH x0 x1 x2 x3 x4 x5 x6 x7 x8 z0 n1 := by
  obtain ⟨b0, b1, b4, b5, b6, b7, b8, l0, l1, l2⟩ := pkOK_parts h
  unfold hdB ipH
  rw [hdF_is _ l0, hdL_is _ _ _ b4.1 b4.2, putL_one _ (by omega) (by omega), putL_one x0 b0.1 b0.2, putL_one x5 b5.1 b5.2, putL_one x6 b6.1 b6.2, hN]
  simp
theorem splice_two (xs : List Int) (a b : Int) (h : 12 ≤ xs.length) : splice xs 10 [a, b] = (xs.set 10 a).set 11 b := by
  have h1 := splice_set xs 11 [] b (by omega)
  have h2 := splice_set xs 10 [b] a (by omega)
  have e : splice xs (11 + 1) [] = xs := by unfold splice; simp
  rw [e] at h1
  rw [← h2, ← h1, List.set_comm _ _ (by omega)]
theorem head_is (x0 x1 : Int) (x2 x3 : Bool) (x4 x5 x6 x7 x8 : Int) (z0 : List Int) (n1 N : Nat) (h : pkOK x0 x1 x4 x5 x6 x7 x8 z0.length = true) (hN : 20 + (z0.length : Int) + (n1 : Int) = (N : Int)) (hz : ∀ z ∈ z0, 0 ≤ z ∧ z ≤ 255) :
    splice (hdB (hdF z0.length) x0 (N : Int) x1 (hdL x2 x3 x4) x5 x6 x7 x8 z0) 10 (putL (csum (hdB (hdF z0.length) x0 (N : Int) x1 (hdL x2 x3 x4) x5 x6 x7 x8 z0)) 2) = ipHead x0 x1 x2 x3 x4 x5 x6 x7 x8 z0 n1 := by
  have hb := hdB_bd (hdF z0.length) x0 (N : Int) x1 (hdL x2 x3 x4) x5 x6 x7 x8 z0 hz
  have hl := hdB_len (hdF z0.length) x0 (N : Int) x1 (hdL x2 x3 x4) x5 x6 x7 x8 z0
  rw [hdB_is x0 x1 x2 x3 x4 x5 x6 x7 x8 z0 n1 N h hN] at hb hl ⊢
  have hc := csum_bd _ hb
  unfold ipHead
  rw [putL_two _ hc.1 hc.2, splice_two _ _ _ (by omega)]

/-- EncodeIP of the program. -/
theorem implEncIP (x0 x1 : Int) (x2 x3 : Bool) (x4 x5 x6 x7 x8 : Int) (z0 z1 : List Int) : EncPacketP 26 ErrT x0 x1 x2 x3 x4 x5 x6 x7 x8 z0 z1 (ipL x0 x1 x2 x3 x4 x5 x6 x7 x8 z0 z1) (ipC x0 x1 x4 x5 x6 x7 x8 z0.length z1.length) := by
  intro a0 n0 c0 a1 n1 c1 W h0n h0a _ m0 h1n h1a _ m1 he
  subst h0n h1n
  have bad : ∀ c : Int, ipC x0 x1 x4 x5 x6 x7 x8 z0.length z1.length = c → ¬ c = 0 → ∀ e w', e = Ending.returned (.tuple #[.slice none 0 0, .int .i64 c]) ∧ Below W.heap.size W w' → ∃ v : Value, e = .returned (.tuple #[v, .int .i64 (ipC x0 x1 x4 x5 x6 x7 x8 z0.length z1.length)]) ∧ OwnB w' W.heap.size v (ipL x0 x1 x2 x3 x4 x5 x6 x7 x8 z0 z1) ∧ Below W.heap.size W w' := by
    rintro c hc h0 e w' ⟨rfl, hb⟩
    refine ⟨_, by rw [hc], ?_, hb⟩
    unfold ipL
    rw [hc, if_neg h0]
    exact ⟨World.ownsRow_nil _ _ _ _, by simp⟩
  cases h : pkOK x0 x1 x4 x5 x6 x7 x8 z0.length with
  | false =>
    have hC : ipC x0 x1 x4 x5 x6 x7 x8 z0.length z1.length = 1 := by unfold ipC; rw [h]; rfl
    exact (implEncIP_form x0 x1 x2 x3 x4 x5 x6 x7 x8 a0 _ c0 a1 _ c1 W m0 m1 h he).mono (bad 1 hC (by decide))
  | true =>
    by_cases hs : 20 + (z0.length : Int) + (z1.length : Int) ≤ 65535
    · by_cases hs2 : x4 + (z1.length : Int) ≤ 65535
      · have hC : ipC x0 x1 x4 x5 x6 x7 x8 z0.length z1.length = 0 := by unfold ipC; rw [h, if_pos rfl, if_neg (by omega)]
        have hN : 20 + (z0.length : Int) + (z1.length : Int) = ((20 + z0.length + z1.length : Nat) : Int) := by omega
        refine (implEncIP_ok x0 x1 x2 x3 x4 x5 x6 x7 x8 a0 _ c0 a1 _ c1 z0 z1 W rfl h0a rfl h1a m0 m1 h (20 + z0.length + z1.length) hN (by omega) hs2 (ipL x0 x1 x2 x3 x4 x5 x6 x7 x8 z0 z1) (by rw [head_is x0 x1 x2 x3 x4 x5 x6 x7 x8 z0 z1.length _ h hN h0a.1]; unfold ipL; rw [hC, if_pos rfl])).mono ?_
        rintro e w' ⟨v, rfl, hO, hb⟩
        exact ⟨v, by rw [hC], hO, hb⟩
      · have hC : ipC x0 x1 x4 x5 x6 x7 x8 z0.length z1.length = 7 := by unfold ipC; rw [h, if_pos rfl, if_pos (by omega)]
        exact (implEncIP_size x0 x1 x2 x3 x4 x5 x6 x7 x8 a0 _ c0 a1 _ c1 W m0 m1 h (by unfold fitB; rw [decide_eq_false hs2, Bool.and_false]) he).mono (bad 7 hC (by decide))
    · have hC : ipC x0 x1 x4 x5 x6 x7 x8 z0.length z1.length = 7 := by unfold ipC; rw [h, if_pos rfl, if_pos (by omega)]
      exact (implEncIP_size x0 x1 x2 x3 x4 x5 x6 x7 x8 a0 _ c0 a1 _ c1 W m0 m1 h (by unfold fitB; rw [decide_eq_false hs]; rfl) he).mono (bad 7 hC (by decide))

/-- What the walk is told of a slice of integers that came in: nil, or a row of 'cap' cells, the first 'len' of them its elements. -/
def IsRow (k : IntKind) (w : World) (a : Option Addr) (len cap : Nat) (zs : List Int) : Prop :=
  (a = none ∧ len = 0 ∧ cap = 0 ∧ zs = []) ∨
  ∃ x, a = some x ∧ len ≤ cap ∧ cap ≤ maxLen ∧ zs.length = cap ∧ (∀ i, i < zs.length → w.cell? (x.add i) = some (.int k (zs.getD i 0))) ∧ ∀ n ∈ zs, (Lit.int k n).wf = true
theorem cell_lt {w : World} {b o : Nat} {v : Value} (h : w.cell? ⟨b, o, none⟩ = some v) : b < w.heap.size := by
  by_cases hb : b < w.heap.size
  · exact hb
  · exfalso
    unfold World.cell? at h
    simp [Array.getElem?_eq_none (Nat.le_of_not_lt hb)] at h
theorem IsRow.arr {w : World} {a : Option Addr} {len cap : Nat} {zs : List Int} (h : IsRow .u8 w a len cap zs) : ∃ ys : List Int, ys.length = len ∧ Arr w a ys := by
  rcases h with ⟨rfl, rfl, rfl, rfl⟩ | ⟨x, rfl, hl, hm, hz, hcell, hwz⟩
  · exact ⟨[], rfl, by simp, fun j hj => by simp at hj⟩
  · refine ⟨zs.take len, by simp; omega, ?_, ?_⟩
    · intro z hz'
      have := hwz z (List.mem_of_mem_take hz')
      simpa [Lit.wf, IntKind.min, IntKind.max, IntKind.signed, IntKind.bits] using this
    · intro j hj
      have hj' : j < len := by simp at hj; omega
      obtain ⟨b, off, rfl, hc⟩ := ints_at hcell (by omega)
      have h1 := hc j (by omega)
      refine ⟨b, off, rfl, cell_lt h1, ?_⟩
      rw [h1, List.getD_eq_getElem?_getD, List.getD_eq_getElem?_getD, List.getElem?_take, if_pos hj']

/-- A struct of numbers by value: each of its cells reads at its field's type. -/
theorem agg_cells {H : Type} {enc : TypeId × Value → H} {P : Program} {w : World} {base b0 : Nat} {spare : Nat → Bool} {held : Bool} {r : Reach} {t : TypeId} {fs : Array Field} {v : Value} {d : DataW H} {p : List MemPlace} (hs : P.underlying t = some (.struct fs)) (hone : Go.Deep.oneCellFields P fs = true)
    (hv : Value.okWide P w r b0 t v) (h : DataW.Trod enc P w base spare held t v d p) :
    ∃ cs : Array Value, v = .agg cs ∧ cs.size = P.cellsOf t ∧ ∀ (i : Nat) (f : Field) (c : Value), fs[i]? = some f → cs[i]? = some c → ∃ n y, DataW.trod enc P w base spare held n f.type [c] = some y := by
  obtain ⟨cs, rfl, hsz⟩ := okWide_struct hs hv
  obtain ⟨fuel, hf⟩ := h
  obtain ⟨xs, n, _, _, hl, hlen, hr⟩ := DataW.trod_struct hs hf
  refine ⟨cs, rfl, hsz, fun i f c hi hc => ?_⟩
  obtain ⟨ho, hk⟩ := Go.Deep.hone_of hone i f hi
  have hlt : i < xs.length := by
    rw [hlen]; exact (Array.getElem?_eq_some_iff.1 hi).1
  have h1 := hr i f hi
  have e : (((Value.agg cs).cells.toList.drop f.offset).take (P.cellsOf f.type)) = [c] := by
    rw [ho, hk]
    have hc' : cs.toList[i]? = some c := by simpa using hc
    obtain ⟨hlt', e'⟩ := List.getElem?_eq_some_iff.1 hc'
    simp only [Value.cells]
    rw [List.drop_eq_getElem_cons hlt', e']
    rfl
  rw [e] at h1
  exact ⟨n, _, h1.trans (List.getElem?_eq_getElem hlt)⟩

theorem cellsPacket {α : Type} {cs : Array α} (h : cs.size = 11) : ∃ k0 k1 k2 k3 k4 k5 k6 k7 k8 k9 k10, cs = #[k0, k1, k2, k3, k4, k5, k6, k7, k8, k9, k10] := by
  obtain ⟨l⟩ := cs
  match l, h with
  | [k0, k1, k2, k3, k4, k5, k6, k7, k8, k9, k10], _ => exact ⟨k0, k1, k2, k3, k4, k5, k6, k7, k8, k9, k10, rfl⟩
theorem openPacket {H : Type} {enc : TypeId × Value → H} {w : World} {base b0 : Nat} {held : Bool} {r : Reach} {v : Value} {d : DataW H} {p : List MemPlace} (hv : Value.okWide Tryd.prog w r b0 44 v) (h : DataW.Trod enc Tryd.prog w base (fun _ => true) held 44 v d p) :
    ∃ (x0 : Int) (x1 : Int) (x2 : Bool) (x3 : Bool) (x4 : Int) (x5 : Int) (x6 : Int) (x7 : Int) (x8 : Int) (a0 : Option Addr) (n0 c0 : Nat) (z0 : List Int) (a1 : Option Addr) (n1 c1 : Nat) (z1 : List Int), v = .agg #[.int .i64 x0, .int .i64 x1, .bool x2, .bool x3, .int .i64 x4, .int .i64 x5, .int .i64 x6, .int .i64 x7, .int .i64 x8, .slice a0 n0 c0, .slice a1 n1 c1] ∧ IsRow .u8 w a0 n0 c0 z0 ∧ IsRow .u8 w a1 n1 c1 z1 := by
  obtain ⟨cs, rfl, hsz, hr⟩ := agg_cells Tryd.underlying44 (by kernel_rfl) hv h
  have hC : Tryd.prog.cellsOf 44 = 11 := by kernel_rfl
  obtain ⟨k0, k1, k2, k3, k4, k5, k6, k7, k8, k9, k10, rfl⟩ := cellsPacket (hsz.trans hC)
  obtain ⟨m0, y0, r0⟩ := hr 0 _ k0 rfl rfl
  obtain ⟨x0, e0, _, _⟩ := DataW.trod_int Tryd.underlying2 r0
  simp at e0
  subst e0
  obtain ⟨m1, y1, r1⟩ := hr 1 _ k1 rfl rfl
  obtain ⟨x1, e1, _, _⟩ := DataW.trod_int Tryd.underlying2 r1
  simp at e1
  subst e1
  obtain ⟨m2, y2, r2⟩ := hr 2 _ k2 rfl rfl
  obtain ⟨x2, e2, _⟩ := DataW.trod_bool Tryd.underlying4 r2
  simp at e2
  subst e2
  obtain ⟨m3, y3, r3⟩ := hr 3 _ k3 rfl rfl
  obtain ⟨x3, e3, _⟩ := DataW.trod_bool Tryd.underlying4 r3
  simp at e3
  subst e3
  obtain ⟨m4, y4, r4⟩ := hr 4 _ k4 rfl rfl
  obtain ⟨x4, e4, _, _⟩ := DataW.trod_int Tryd.underlying2 r4
  simp at e4
  subst e4
  obtain ⟨m5, y5, r5⟩ := hr 5 _ k5 rfl rfl
  obtain ⟨x5, e5, _, _⟩ := DataW.trod_int Tryd.underlying2 r5
  simp at e5
  subst e5
  obtain ⟨m6, y6, r6⟩ := hr 6 _ k6 rfl rfl
  obtain ⟨x6, e6, _, _⟩ := DataW.trod_int Tryd.underlying2 r6
  simp at e6
  subst e6
  obtain ⟨m7, y7, r7⟩ := hr 7 _ k7 rfl rfl
  obtain ⟨x7, e7, _, _⟩ := DataW.trod_int Tryd.underlying2 r7
  simp at e7
  subst e7
  obtain ⟨m8, y8, r8⟩ := hr 8 _ k8 rfl rfl
  obtain ⟨x8, e8, _, _⟩ := DataW.trod_int Tryd.underlying2 r8
  simp at e8
  subst e8
  obtain ⟨m9, y9, r9⟩ := hr 9 _ k9 rfl rfl
  obtain ⟨m10, y10, r10⟩ := hr 10 _ k10 rfl rfl
  obtain ⟨a0, n0, c0, z0, rfl, w0⟩ : ∃ a len cap zs, k9 = .slice a len cap ∧ IsRow .u8 w a len cap zs := by
    rcases open_ints Tryd.underlying22 Tryd.underlying5 (by kernel_rfl) r9 with ⟨hcs, _⟩ | ⟨x, l, c, zs, hcs, _, hl, hm, hz, _, hcell, hwz⟩
    · simp at hcs
      exact ⟨none, 0, 0, [], hcs, .inl ⟨rfl, rfl, rfl, rfl⟩⟩
    · simp at hcs
      exact ⟨some x, l, c, zs, hcs, .inr ⟨_, rfl, hl, hm, by simpa using hz, hcell, hwz⟩⟩
  obtain ⟨a1, n1, c1, z1, rfl, w1⟩ : ∃ a len cap zs, k10 = .slice a len cap ∧ IsRow .u8 w a len cap zs := by
    rcases open_ints Tryd.underlying22 Tryd.underlying5 (by kernel_rfl) r10 with ⟨hcs, _⟩ | ⟨x, l, c, zs, hcs, _, hl, hm, hz, _, hcell, hwz⟩
    · simp at hcs
      exact ⟨none, 0, 0, [], hcs, .inl ⟨rfl, rfl, rfl, rfl⟩⟩
    · simp at hcs
      exact ⟨some x, l, c, zs, hcs, .inr ⟨_, rfl, hl, hm, by simpa using hz, hcell, hwz⟩⟩
  exact ⟨x0, x1, x2, x3, x4, x5, x6, x7, x8, a0, n0, c0, z0, a1, n1, c1, z1, rfl, w0, w1⟩

theorem ipL_len (x0 x1 : Int) (x2 x3 : Bool) (x4 x5 x6 x7 x8 : Int) (z0 z1 : List Int) : (ipL x0 x1 x2 x3 x4 x5 x6 x7 x8 z0 z1).length ≤ 1048576 := by
  unfold ipL
  split
  · rename_i h
    rw [List.length_append, ipHead_len]
    unfold ipC at h
    split at h
    · split at h
      · cases h
      · omega
    · cases h
  · simp
theorem row_bound {w : World} {a : Option Addr} {n cap : Nat} {z : List Int} (h : IsRow .u8 w a n cap z) : n ≤ 9223372036854775807 := by
  rcases h with ⟨_, rfl, _, _⟩ | ⟨x, _, hl, hm, _⟩
  · omega
  · have : cap ≤ 9223372036854775807 := hm
    omega
theorem walkEncodeIP1 (Pre : World → Prop) (hpre : ∀ (w w' : World), Pre w → Below w.heap.size w w' → Pre w') (hI : ∀ (x0 x1 : Int) (x2 x3 : Bool) (x4 x5 x6 x7 x8 : Int) (z0 z1 : List Int), EncPacketP 26 Pre x0 x1 x2 x3 x4 x5 x6 x7 x8 z0 z1 (ipL x0 x1 x2 x3 x4 x5 x6 x7 x8 z0 z1) (ipC x0 x1 x4 x5 x6 x7 x8 z0.length z1.length)) (x0 x1 : Int) (x2 x3 : Bool) (x4 x5 x6 x7 x8 : Int) (a0 : Option Addr) (n0 c0 : Nat) (a1 : Option Addr) (n1 c1 : Nat) (z0 z1 : List Int) (w : World) (w0 : IsRow .u8 w a0 n0 c0 z0) (w1 : IsRow .u8 w a1 n1 c1 z1) (hp : Pre w) :
    Calls Tryd.prog 5 #[.agg #[.int .i64 x0, .int .i64 x1, .bool x2, .bool x3, .int .i64 x4, .int .i64 x5, .int .i64 x6, .int .i64 x7, .int .i64 x8, .slice a0 n0 c0, .slice a1 n1 c1]] w fun e w' => e = .returned (.bool true) ∧ Below w.heap.size w w' := by
  obtain ⟨y0, h0n, h0a⟩ := w0.arr
  obtain ⟨y1, h1n, h1a⟩ := w1.arr
  exact walkEncodeIP0 Pre hpre x0 x1 x2 x3 x4 x5 x6 x7 x8 a0 n0 c0 a1 n1 c1 y0 y1 _ _ (specEncIP x0 x1 x2 x3 x4 x5 x6 x7 x8 y0 y1 _) (hI x0 x1 x2 x3 x4 x5 x6 x7 x8 y0 y1) (ipL_len x0 x1 x2 x3 x4 x5 x6 x7 x8 y0 y1) w h0n h0a (row_bound w0) h1n h1a (row_bound w1) hp
theorem walkEncodeIP (x0 x1 : Int) (x2 x3 : Bool) (x4 x5 x6 x7 x8 : Int) (a0 : Option Addr) (n0 c0 : Nat) (a1 : Option Addr) (n1 c1 : Nat) (z0 z1 : List Int) (w : World) (w0 : IsRow .u8 w a0 n0 c0 z0) (w1 : IsRow .u8 w a1 n1 c1 z1) (he : ErrT w) :
    Calls Tryd.prog 5 #[.agg #[.int .i64 x0, .int .i64 x1, .bool x2, .bool x3, .int .i64 x4, .int .i64 x5, .int .i64 x6, .int .i64 x7, .int .i64 x8, .slice a0 n0 c0, .slice a1 n1 c1]] w fun e w' => e = .returned (.bool true) ∧ Below w.heap.size w w' :=
  walkEncodeIP1 ErrT (fun _ _ h hb => h.below hb (Nat.le_refl _)) implEncIP x0 x1 x2 x3 x4 x5 x6 x7 x8 a0 n0 c0 a1 n1 c1 z0 z1 w w0 w1 he

theorem own : ownKnob Tryd.prog.godebug = none := by kernel_rfl
theorem laidOut : laidOutB Tryd.prog = true := by kernel_rfl
theorem errG : Tryd.prog.globalNamed "errors.errorType" = some 0 := by kernel_rfl
theorem rtT : (Tryd.prog.cutTypes.find? (·.1 == "internal/reflectlite.rtype")).map (·.2) = some 138 := by kernel_rfl
theorem oneErr : ((List.range 181).filter fun t => Tryd.prog.rowNamed t [101, 114, 114, 111, 114]) = [67] := by kernel_rfl
theorem typesN : Tryd.prog.types.size = 181 := by kernel_rfl
/-- What the row's list gives: the variable holds the handle of the type 'error'. -/
theorem errOf {W : World} (h : laidMetH Tryd.prog Rows.fnExactEncodeIPRow.laid W) : ErrT W := by
  have h' : laidMet Tryd.prog [] W ∧ handlesMet Tryd.prog Rows.fnExactEncodeIPRow.laid W := h
  obtain ⟨name, u, ty, e1, e2, e3, e4, e5⟩ := h'.2 _ (List.mem_singleton.2 rfl)
  have en : name = [101, 114, 114, 111, 114] := (Option.some.inj e1).symm
  subst en
  obtain rfl := Option.some.inj (rtT.symm.trans e2)
  have hm : ty ∈ (List.range 181).filter fun t => Tryd.prog.rowNamed t [101, 114, 114, 111, 114] := List.mem_filter.2 ⟨List.mem_range.2 (by rw [← typesN]; exact e3), e4⟩
  rw [oneErr] at hm
  obtain rfl := List.mem_singleton.1 hm
  have hh : typeHandle Tryd.prog 67 = .pointer (some ⟨1, 67, none⟩) := by kernel_rfl
  rw [hh] at e5
  have hc : W.cell? ⟨0, 0, none⟩ = some (.iface 138 (.agg #[.pointer (some ⟨1, 67, none⟩)])) := by simpa using World.var?_cell errG e5 0
  exact ⟨World.block_lt_of_cell? W _ hc, hc⟩
theorem door_met (os : Os) (args : Array Value) : laidMetH Tryd.prog Rows.fnExactEncodeIPRow.laid ((World.doorLaid Tryd.prog 400 os).forCall (fun _ _ => 0) ⟨#[], args, []⟩).memory :=
  laidMetH_of_parts3 (fuel := 8) (laidMet_of_run' 8 (by kernel_rfl) (by kernel_rfl)) (by kernel_rfl) (by kernel_rfl)
set_option maxRecDepth 100000 in
theorem fnExactEncodeIP_lifted (os : Os) (started : os.Started) (H : Type) (enc : TypeId × Value → H) :
    ReturnsInHanded {} Tryd.checked os 5 .any (fun w args => (Rows.fnExactEncodeIPSpec.pre enc Tryd.prog Tryd.f5 [] false w args ∧ laidMetH Tryd.prog Rows.fnExactEncodeIPRow.laid w) ∧ sizedMet enc Tryd.prog Tryd.f5 (OpenSpec.ofChange Rows.fnExactEncodeIPSpec) false w args) (Rows.fnExactEncodeIPSpec.post enc Tryd.prog Tryd.f5 false true false false) := by
  refine returnsInHanded_of_change_and (C := Tryd.checked) (X := fun w _ => laidMetH Tryd.prog Rows.fnExactEncodeIPRow.laid w) (fun _ _ _ hh h => h.of_heap hh) own started (by kernel_rfl) Tryd.func5
    (ChangeSpec.witness_shaped (enc := enc) (C := Tryd.checked) (os := os) (X := fun w _ => laidMetH Tryd.prog Rows.fnExactEncodeIPRow.laid w) false (World.doorLaid Tryd.prog 400 os) #[.agg #[.int .i64 0, .int .i64 0, .bool false, .bool false, .int .i64 0, .int .i64 0, .int .i64 0, .int .i64 0, .int .i64 0, .slice none 0 0, .slice none 0 0]] 8 rfl (World.shaped_of_RefB (by kernel_rfl) (by kernel_rfl)) (by kernel_rfl) (by kernel_rfl) (by kernel_rfl) (door_met os _)) ?_
  intro W base args ds gs before hval0 hW _ _ hL _
  have hval : ∀ (j : Nat) t v, Tryd.f5.params[j]? = some t → args[j]? = some v → Value.okWide Tryd.prog W .any base t v := hval0
  have hW' := hW
  obtain ⟨p, q, hA0, hV, rfl, hfz, hnd⟩ := hW
  have hA : DataW.TrodAll enc Tryd.prog W 0 (fun _ => true) true Tryd.f5.params.toList args.toList ds p := hA0
  rw [Tryd.params5] at hA hval
  obtain ⟨v0, vs0, d0, ds0, p0, q0, hargs, rfl, rfl, h0, r0⟩ := trodAll_cons hA
  obtain ⟨rfl, rfl, rfl⟩ := trodAll_nil r0
  obtain rfl : args = #[v0] := by cases args; simp_all
  obtain ⟨rfl, rfl⟩ := trodVars_none hV
  have k0 := h0
  have lt0 : ∀ x ∈ p0, x.block < W.heap.size := by obtain ⟨m, hm⟩ := k0; exact DataW.trod_lt m _ _ _ hm
  obtain ⟨x0_0, x0_1, x0_2, x0_3, x0_4, x0_5, x0_6, x0_7, x0_8, a0_0, n0_0, c0_0, z0_0, a0_1, n0_1, c0_1, z0_1, rfl, w0_0, w0_1⟩ := openPacket (hval 0 44 v0 rfl rfl) h0
  clear hA0 hval0
  refine (walkEncodeIP x0_0 x0_1 x0_2 x0_3 x0_4 x0_5 x0_6 x0_7 x0_8 a0_0 n0_0 c0_0 a0_1 n0_1 c0_1 z0_0 z0_1 W w0_0 w0_1 (errOf hL)).mono fun e W' ⟨he, bel⟩ => ?_
  subst he
  exact ⟨_, rfl, _, _, _, [], _, [], hW', trodAll_mk1 (shut_bool Tryd.underlying4 _), (trodAll_cons_mk (Below.trod laidOut (by kernel_rfl) (of_decide_eq_true (by kernel_rfl)) k0 bel lt0) trodAll_mk0), rfl, bel.frame _, fun h => by cases h⟩
theorem fnExactEncodeIP_said : Rows.FnExactEncodeIPSaid :=
  OpenClaim.holds_of_wide 5 Tryd.f5 rfl rfl rfl rfl rfl rfl rfl ⟨rfl, rfl, rfl, rfl, rfl⟩ rfl rfl rfl rfl rfl (by kernel_rfl) Tryd.func5 (by kernel_rfl)
    (of_decide_eq_true (by kernel_rfl)) (by unfold Func.isWrapper; first | (rw [if_pos (by decide +kernel)]; kernel_rfl) | (rw [if_neg (by decide +kernel)]; exact ⟨rfl, rfl⟩))
    (fun os started H enc _ => fnExactEncodeIP_lifted os started H enc)
theorem fnExactEncodeIP_plain (f : FuncId) (fn : Func) (hf : Tryd.pinned.checked.prog.funcNamed "loop.example/g00003/laws.FnExactEncodeIP" = some f) (hfn : Tryd.pinned.checked.prog.funcs[f]? = some fn) :
    true = Tryd.pinned.checked.prog.looks [] ∧ ∀ (j : Nat) t, fn.params[j]? = some t → Tryd.pinned.checked.prog.wantsStandIn t = false := by
  obtain rfl : f = 5 := Option.some.inj ((show Tryd.prog.funcNamed "loop.example/g00003/laws.FnExactEncodeIP" = some 5 by kernel_rfl).symm.trans hf) |>.symm
  obtain rfl : fn = Tryd.f5 := (Option.some.inj (Tryd.func5.symm.trans hfn)).symm
  refine ⟨by kernel_rfl, fun j t ht => ?_⟩
  rw [Tryd.params5] at ht
  have hm : t ∈ [44] := by simpa using Array.mem_of_getElem? ht
  have hall : ([44].all fun u => !Tryd.prog.wantsStandIn u) = true := by kernel_rfl
  exact (show Tryd.prog.wantsStandIn t = false by simpa using List.all_eq_true.1 hall t hm)
theorem fnExactEncodeIP_holds : Rows.FnExactEncodeIPCardSaid :=
  Claim7.holds_tied_plain_at .later [] _ _ _ _ fnExactEncodeIP_said (fun _ h => by cases h) (by kernel_rfl) (fun _ h => by cases h) fnExactEncodeIP_row_tie rfl ⟨rfl, rfl⟩ (by kernel_rfl) rfl fnExactEncodeIP_plain (by kernel_rfl)
end Go.Proofs.YtakoagfeiolkjabDoor
