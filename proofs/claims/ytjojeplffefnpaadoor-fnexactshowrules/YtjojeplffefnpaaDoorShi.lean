/-
Contracts of functions of this seat.
-/
import Derived.Test.YtjojeplffefnpaaDoorRows
import Derived.WalkKit
import Derived.ProofKit
import Derived.OpenShut
import Derived.Test.YtjojeplffefnpaaDoorAkd2
import Derived.Test.YtjojeplffefnpaaDoorDcg
import Derived.ArgAppend
import Derived.Deep.RegionLaw
import Derived.Laws.AppendOwn
import Derived.Shelf.Strings.Builder1
import Derived.Shelf.Strings.Builder2
import Derived.Shelf.Strings.OnBuilder
import Derived.Shelf.Strings.BuilderF
import Derived.Shelf.Strconv.Itoa0
import Derived.Shelf.Strconv.Itoa1
import Derived.Shelf.LaysM
import Derived.Shelf.Strconv.Itoa2
import Derived.Shelf.Strconv.Itoa3
import Derived.Shelf.Strconv.Itoa4
import Derived.Shelf.Strconv.AppendUint10
import Derived.Shelf.Strconv.AppendInt10
import Derived.Shelf.Strconv.AppendIntPublic10
import Derived.Lib.AppendIntMem
import Derived.Laws.IdiomStrings
namespace Go.Proofs.YtjojeplffefnpaaDoor
open Go.ChangeShapes Go.WideShapes Go.ChangeAt Go.RowKit
set_option linter.unusedVariables false
set_option maxRecDepth 100000
theorem Tryd.infoB : (Tryd.prog.info? 5).map (fun i => (i.zero, i.size, i.bytes)) = some (some (.int .u8 0), 1, 1) := by kernel_rfl
def bval (zs : List Int) : List Value := zs.map (Value.int .u8)
/-- A slice of bytes zs in memory of this call's own, from block B on. -/
def OwnB (w : World) (B : Nat) (v : Value) (zs : List Int) : Prop := w.ownsRow B 5 1 v zs.length (bval zs) ∧ ∀ z ∈ zs, 0 ≤ z ∧ z ≤ 255
theorem bval_get (zs : List Int) (j : Nat) (h : j < zs.length) : (bval zs)[j]? = some (.int .u8 (zs.getD j 0)) := by
  unfold bval; rw [List.getElem?_map, List.getElem?_eq_getElem h, List.getD_eq_getElem?_getD, List.getElem?_eq_getElem h]; rfl
theorem OwnB.arr {w : World} {B : Nat} {v : Value} {zs : List Int} (h : OwnB w B v zs) : ∃ a cap, v = .slice a zs.length cap ∧ Arr w a zs ∧ zs.length ≤ cap := by
  rcases h.1.2 with ⟨hv, hn⟩ | ⟨g, cap, cur, hv, hB, hg, hnc, hcm, hcs, htake⟩
  · have : zs = [] := List.length_eq_zero_iff.1 hn
    subst this
    exact ⟨none, 0, hv, ⟨by simp, fun j hj => by simp at hj⟩, Nat.le_refl _⟩
  · refine ⟨some ⟨g, 0, none⟩, cap, hv, ⟨h.2, fun j hj => ⟨g, 0, rfl, ?_, ?_⟩⟩, hnc⟩
    · by_cases hlt : g < w.heap.size
      · exact hlt
      · rw [Array.getElem?_eq_none (by omega)] at hg; cases hg
    · have hc := (hv ▸ h.1 : w.ownsRow B 5 1 (.slice (some ⟨g, 0, none⟩) zs.length cap) zs.length (bval zs)).cellAt j (by omega)
      rw [Nat.zero_add, hc, bval_get zs j hj]
theorem oneCells (zs : List Int) : ∀ u ∈ bval zs, u.oneCell' = true := by
  intro u hu
  unfold bval at hu
  obtain ⟨z, _, rfl⟩ := List.mem_map.1 hu
  rfl
theorem OwnB.app {w : World} {B : Nat} {v : Value} {xs ys : List Int} {n : Nat} (h : w.ownsRow B 5 1 v n (bval xs ++ bval ys)) (hn : n = xs.length + ys.length) (hx : ∀ z ∈ xs, 0 ≤ z ∧ z ≤ 255) (hy : ∀ z ∈ ys, 0 ≤ z ∧ z ≤ 255) : OwnB w B v (xs ++ ys) := by
  refine ⟨?_, fun z hz => ?_⟩
  · have e : bval (xs ++ ys) = bval xs ++ bval ys := by unfold bval; rw [List.map_append]
    rw [e, List.length_append, ← hn]; exact h
  · rcases List.mem_append.1 hz with h | h
    · exact hx z h
    · exact hy z h
theorem news_arr {w : World} {b off : Nat} {zs : List Int} (h : Arr w (some ⟨b, off, none⟩) zs) : ∀ j u, (bval zs)[j]? = some u → w.cell? ((⟨b, off, none⟩ : Addr).add j) = some u := by
  intro j u hu
  have hj : j < zs.length := by
    have := (List.getElem?_eq_some_iff.1 hu).1
    simpa [bval] using this
  obtain ⟨b', off', e, _, hc⟩ := h.2 j hj
  simp only [Option.some.injEq, Addr.mk.injEq, and_true] at e
  obtain ⟨rfl, rfl⟩ := e
  rw [bval_get zs j hj] at hu
  rw [Addr.add_lit, hc]; exact hu
theorem cell_one (w : World) (z : Int) (t : Nat) : ∀ j u, (bval [z])[j]? = some u → (w.alloc (.cells #[.int .u8 z] t)).cell? ((⟨w.heap.size, 0, none⟩ : Addr).add j) = some u := by
  intro j u hu
  match j with
  | 0 =>
    simp [bval] at hu
    subst hu
    rw [Addr.add_lit]
    exact cell_of_row _ w.heap.size 0 _ t (0, 0) (heap_alloc_new w _)
  | k + 1 => simp [bval] at hu
theorem OwnB.form {w : World} {B : Nat} {v : Value} {zs : List Int} (h : OwnB w B v zs) (hp : 0 < zs.length) : ∃ g cap, v = .slice (some ⟨g, 0, none⟩) zs.length cap ∧ B ≤ g ∧ g < w.heap.size := by
  rcases h.1.2 with ⟨_, hn⟩ | ⟨g, cap, cur, hv, hB, hg, _⟩
  · omega
  · refine ⟨g, cap, hv, hB, ?_⟩
    by_cases hlt : g < w.heap.size
    · exact hlt
    · rw [Array.getElem?_eq_none (by omega)] at hg; cases hg

theorem step_append_own {P : Program} {ops : Array Oper} {o : Oper} {a : Act} {w : World} {K : Act → World → Prop} {Q : Exit → Act → World → Prop} {E : Prop} (hgd : o.guard = none) (s x : Operand) (t : TypeId)
    (ho : o.op = .call { callee := .builtin .append, args := #[s, x], argTypes := #[t, t] })
    (base : Nat) (e : TypeId) (i : TypeInfo) (z : Value) (size bytes : Nat) (ht : P.underlying t = some (.slice e)) (hi : P.info? e = some i) (hz : i.zero = some z)
    (hsize : i.size = size) (hby : i.bytes = bytes) (hzs : z.cells.size = size) (hsz : 0 < size)
    (v : Value) (n : Nat) (xs : List Value) (hs : a.eval s = v) (hown : w.ownsRow base e size v n xs)
    (ad : Addr) (m c : Nat) (news : List Value) (hx : a.eval x = .slice (some ad) m c) (hl : news.length = m * size) (hnews : ∀ j u, news[j]? = some u → w.cell? (ad.add j) = some u) (h1 : ∀ u ∈ news, u.oneCell' = true)
    (h63 : n + m ≤ maxLen) (hbytes : (n + m) * bytes ≤ 140737488355328) (hbase : base ≤ w.heap.size)
    (h : ∀ v' w', w'.ownsRow base e size v' (n + m) (xs ++ news) → w.grownBy w' v.ownBlock → (v' = .slice none 0 0 ↔ v = .slice none 0 0 ∧ m = 0) → K (a.put o.dst v') w') :
    if Region.wanted o (yielded ops a.tmps) = true then Oper.wp P o a w K Q else E := by
  have hw : Region.wanted o (yielded ops a.tmps) = true := by simp [Region.wanted, hgd]
  rw [if_pos hw]
  exact wp_append_own w s x t ho base e i z size bytes ht hi hz hsize hby hzs hsz v n xs hs hown ad m c news hx hl hnews h1 h63 hbytes hbase h

def decZ (n : Int) : List Int := (decL n).toList.map (fun b => (b.toNat : Int))
theorem decZ_len (n : Int) : (decZ n).length ≤ 3 := by
  unfold decZ
  rw [List.length_map]
  exact decL_size (n := n)
theorem decZ_bd (n : Int) : ∀ z ∈ decZ n, 0 ≤ z ∧ z ≤ 255 := by
  intro z hz
  obtain ⟨b, _, rfl⟩ := List.mem_map.1 hz
  have := b.toNat_lt
  omega

def Tryd.laysM176_ren : Go.Shelf.Ren := ⟨fun | 176 => 117 | 249 => 126 | 288 => 135 | 283 => 118 | 284 => 119 | 285 => 120 | 286 => 121 | 129 => 128 | 317 => 127 | 318 => 129 | 319 => 130 | 320 => 131 | 337 => 136 | 338 => 137 | n => n, fun | 37 => 30 | 2 => 2 | 3 => 3 | 53 => 144 | 4 => 4 | 9 => 9 | 171 => 150 | 0 => 0 | 173 => 153 | 212 => 170 | 51 => 171 | 5 => 5 | 20 => 20 | 213 => 172 | 46 => 97 | 232 => 191 | 233 => 192 | n => n, fun | 17 => 2 | 18 => 3 | 19 => 4 | n => n⟩
theorem Tryd.laysM176 : Go.Proofs.LaysM.n176 Tryd.prog Tryd.laysM176_ren := {
  mixed := by kernel_rfl
  f129 := Tryd.func128.trans (congrArg some (by kernel_rfl))
  f176 := Tryd.func117.trans (congrArg some (by kernel_rfl))
  f249 := Tryd.func126.trans (congrArg some (by kernel_rfl))
  f283 := Tryd.func118.trans (congrArg some (by kernel_rfl))
  f284 := Tryd.func119.trans (congrArg some (by kernel_rfl))
  f285 := Tryd.func120.trans (congrArg some (by kernel_rfl))
  f286 := Tryd.func121.trans (congrArg some (by kernel_rfl))
  f288 := Tryd.func135.trans (congrArg some (by kernel_rfl))
  f317 := Tryd.func127.trans (congrArg some (by kernel_rfl))
  f318 := Tryd.func129.trans (congrArg some (by kernel_rfl))
  f319 := Tryd.func130.trans (congrArg some (by kernel_rfl))
  f320 := Tryd.func131.trans (congrArg some (by kernel_rfl))
  f337 := Tryd.func136.trans (congrArg some (by kernel_rfl))
  f338 := Tryd.func137.trans (congrArg some (by kernel_rfl))
  t0 := Tryd.underlying0
  a0 := Tryd.isAgg0
  z0 := Tryd.sizeOf0
  v0 := Tryd.zeroValue0
  t2 := Tryd.underlying2
  a2 := Tryd.isAgg2
  z2 := Tryd.sizeOf2
  v2 := Tryd.zeroValue2
  t3 := Tryd.underlying3
  a3 := Tryd.isAgg3
  z3 := Tryd.sizeOf3
  v3 := Tryd.zeroValue3
  t4 := Tryd.underlying4
  a4 := Tryd.isAgg4
  z4 := Tryd.sizeOf4
  v4 := Tryd.zeroValue4
  t5 := Tryd.underlying5
  a5 := Tryd.isAgg5
  z5 := Tryd.sizeOf5
  v5 := Tryd.zeroValue5
  t9 := Tryd.underlying9
  a9 := Tryd.isAgg9
  z9 := Tryd.sizeOf9
  v9 := Tryd.zeroValue9
  t20 := Tryd.underlying20
  a20 := Tryd.isAgg20
  z20 := Tryd.sizeOf20
  v20 := Tryd.zeroValue20
  t37 := Tryd.underlying30
  a37 := Tryd.isAgg30
  z37 := Tryd.sizeOf30
  v37 := Tryd.zeroValue30
  t46 := Tryd.underlying97
  a46 := Tryd.isAgg97
  z46 := Tryd.sizeOf97
  v46 := Tryd.zeroValue97
  t51 := Tryd.underlying171
  a51 := Tryd.isAgg171
  z51 := Tryd.sizeOf171
  v51 := Tryd.zeroValue171
  t53 := Tryd.underlying144
  a53 := Tryd.isAgg144
  z53 := Tryd.sizeOf144
  v53 := Tryd.zeroValue144
  t171 := Tryd.underlying150
  a171 := Tryd.isAgg150
  z171 := Tryd.sizeOf150
  v171 := Tryd.zeroValue150
  t173 := Tryd.underlying153
  a173 := Tryd.isAgg153
  z173 := Tryd.sizeOf153
  v173 := Tryd.zeroValue153
  t212 := Tryd.underlying170
  a212 := Tryd.isAgg170
  z212 := Tryd.sizeOf170
  v212 := Tryd.zeroValue170
  t213 := Tryd.underlying172
  a213 := Tryd.isAgg172
  z213 := Tryd.sizeOf172
  t232 := Tryd.underlying191
  a232 := Tryd.isAgg191
  z232 := Tryd.sizeOf191
  v232 := Tryd.zeroValue191
  t233 := Tryd.underlying192
  a233 := Tryd.isAgg192
  z233 := Tryd.sizeOf192
  v233 := Tryd.zeroValue192
  g17 := by kernel_rfl
  g18 := by kernel_rfl
  g19 := by kernel_rfl
  i0 := by kernel_rfl
  i2 := by kernel_rfl
  i3 := by kernel_rfl
  i4 := by kernel_rfl
  i5 := by kernel_rfl
  i9 := by kernel_rfl
  i20 := by kernel_rfl
  i37 := by kernel_rfl
  i46 := by kernel_rfl
  i51 := by kernel_rfl
  i53 := by kernel_rfl
  i171 := by kernel_rfl
  i173 := by kernel_rfl
  i212 := by kernel_rfl
  i232 := by kernel_rfl
  i233 := by kernel_rfl
  m17 := by kernel_rfl
  m18 := by kernel_rfl
  m19 := by kernel_rfl }
def Tryd.lays173_ren : Go.Shelf.Ren := ⟨fun | 173 => 89 | 246 => 109 | 283 => 118 | 284 => 119 | 285 => 120 | 286 => 121 | 129 => 128 | 317 => 127 | 318 => 129 | 319 => 130 | 320 => 131 | 337 => 136 | 338 => 137 | n => n, fun | 2 => 2 | 3 => 3 | 9 => 9 | 4 => 4 | 171 => 150 | 0 => 0 | 53 => 144 | 37 => 30 | 5 => 5 | 173 => 153 | 212 => 170 | 51 => 171 | 20 => 20 | 213 => 172 | 46 => 97 | 232 => 191 | 233 => 192 | n => n, fun | 17 => 2 | 18 => 3 | 19 => 4 | n => n⟩
theorem Tryd.lays173 : Go.Proofs.Lays.n173 Tryd.prog Tryd.lays173_ren := {
  mixed := by kernel_rfl
  f129 := Tryd.func128.trans (congrArg some (by kernel_rfl))
  f173 := Tryd.func89.trans (congrArg some (by kernel_rfl))
  f246 := Tryd.func109.trans (congrArg some (by kernel_rfl))
  f283 := Tryd.func118.trans (congrArg some (by kernel_rfl))
  f284 := Tryd.func119.trans (congrArg some (by kernel_rfl))
  f285 := Tryd.func120.trans (congrArg some (by kernel_rfl))
  f286 := Tryd.func121.trans (congrArg some (by kernel_rfl))
  f317 := Tryd.func127.trans (congrArg some (by kernel_rfl))
  f318 := Tryd.func129.trans (congrArg some (by kernel_rfl))
  f319 := Tryd.func130.trans (congrArg some (by kernel_rfl))
  f320 := Tryd.func131.trans (congrArg some (by kernel_rfl))
  f337 := Tryd.func136.trans (congrArg some (by kernel_rfl))
  f338 := Tryd.func137.trans (congrArg some (by kernel_rfl))
  t0 := Tryd.underlying0
  a0 := Tryd.isAgg0
  z0 := Tryd.sizeOf0
  v0 := Tryd.zeroValue0
  t2 := Tryd.underlying2
  a2 := Tryd.isAgg2
  z2 := Tryd.sizeOf2
  v2 := Tryd.zeroValue2
  t3 := Tryd.underlying3
  a3 := Tryd.isAgg3
  z3 := Tryd.sizeOf3
  v3 := Tryd.zeroValue3
  t4 := Tryd.underlying4
  a4 := Tryd.isAgg4
  z4 := Tryd.sizeOf4
  v4 := Tryd.zeroValue4
  t5 := Tryd.underlying5
  a5 := Tryd.isAgg5
  z5 := Tryd.sizeOf5
  v5 := Tryd.zeroValue5
  t9 := Tryd.underlying9
  a9 := Tryd.isAgg9
  z9 := Tryd.sizeOf9
  v9 := Tryd.zeroValue9
  t20 := Tryd.underlying20
  a20 := Tryd.isAgg20
  z20 := Tryd.sizeOf20
  v20 := Tryd.zeroValue20
  t37 := Tryd.underlying30
  a37 := Tryd.isAgg30
  z37 := Tryd.sizeOf30
  v37 := Tryd.zeroValue30
  t46 := Tryd.underlying97
  a46 := Tryd.isAgg97
  z46 := Tryd.sizeOf97
  v46 := Tryd.zeroValue97
  t51 := Tryd.underlying171
  a51 := Tryd.isAgg171
  z51 := Tryd.sizeOf171
  v51 := Tryd.zeroValue171
  t53 := Tryd.underlying144
  a53 := Tryd.isAgg144
  z53 := Tryd.sizeOf144
  v53 := Tryd.zeroValue144
  t171 := Tryd.underlying150
  a171 := Tryd.isAgg150
  z171 := Tryd.sizeOf150
  v171 := Tryd.zeroValue150
  t173 := Tryd.underlying153
  a173 := Tryd.isAgg153
  z173 := Tryd.sizeOf153
  v173 := Tryd.zeroValue153
  t212 := Tryd.underlying170
  a212 := Tryd.isAgg170
  z212 := Tryd.sizeOf170
  v212 := Tryd.zeroValue170
  t213 := Tryd.underlying172
  a213 := Tryd.isAgg172
  z213 := Tryd.sizeOf172
  t232 := Tryd.underlying191
  a232 := Tryd.isAgg191
  z232 := Tryd.sizeOf191
  v232 := Tryd.zeroValue191
  t233 := Tryd.underlying192
  a233 := Tryd.isAgg192
  z233 := Tryd.sizeOf192
  v233 := Tryd.zeroValue192
  g17 := by kernel_rfl
  g18 := by kernel_rfl
  g19 := by kernel_rfl }
def Tryd.laysM173_ren : Go.Shelf.Ren := ⟨fun | 173 => 89 | 246 => 109 | 283 => 118 | 284 => 119 | 285 => 120 | 286 => 121 | 129 => 128 | 317 => 127 | 318 => 129 | 319 => 130 | 320 => 131 | 337 => 136 | 338 => 137 | n => n, fun | 2 => 2 | 3 => 3 | 9 => 9 | 4 => 4 | 171 => 150 | 0 => 0 | 53 => 144 | 37 => 30 | 5 => 5 | 173 => 153 | 212 => 170 | 51 => 171 | 20 => 20 | 213 => 172 | 46 => 97 | 232 => 191 | 233 => 192 | n => n, fun | 17 => 2 | 18 => 3 | 19 => 4 | n => n⟩
theorem Tryd.laysM173 : Go.Proofs.LaysM.n173 Tryd.prog Tryd.laysM173_ren := {
  mixed := by kernel_rfl
  f129 := Tryd.func128.trans (congrArg some (by kernel_rfl))
  f173 := Tryd.func89.trans (congrArg some (by kernel_rfl))
  f246 := Tryd.func109.trans (congrArg some (by kernel_rfl))
  f283 := Tryd.func118.trans (congrArg some (by kernel_rfl))
  f284 := Tryd.func119.trans (congrArg some (by kernel_rfl))
  f285 := Tryd.func120.trans (congrArg some (by kernel_rfl))
  f286 := Tryd.func121.trans (congrArg some (by kernel_rfl))
  f317 := Tryd.func127.trans (congrArg some (by kernel_rfl))
  f318 := Tryd.func129.trans (congrArg some (by kernel_rfl))
  f319 := Tryd.func130.trans (congrArg some (by kernel_rfl))
  f320 := Tryd.func131.trans (congrArg some (by kernel_rfl))
  f337 := Tryd.func136.trans (congrArg some (by kernel_rfl))
  f338 := Tryd.func137.trans (congrArg some (by kernel_rfl))
  t0 := Tryd.underlying0
  a0 := Tryd.isAgg0
  z0 := Tryd.sizeOf0
  v0 := Tryd.zeroValue0
  t2 := Tryd.underlying2
  a2 := Tryd.isAgg2
  z2 := Tryd.sizeOf2
  v2 := Tryd.zeroValue2
  t3 := Tryd.underlying3
  a3 := Tryd.isAgg3
  z3 := Tryd.sizeOf3
  v3 := Tryd.zeroValue3
  t4 := Tryd.underlying4
  a4 := Tryd.isAgg4
  z4 := Tryd.sizeOf4
  v4 := Tryd.zeroValue4
  t5 := Tryd.underlying5
  a5 := Tryd.isAgg5
  z5 := Tryd.sizeOf5
  v5 := Tryd.zeroValue5
  t9 := Tryd.underlying9
  a9 := Tryd.isAgg9
  z9 := Tryd.sizeOf9
  v9 := Tryd.zeroValue9
  t20 := Tryd.underlying20
  a20 := Tryd.isAgg20
  z20 := Tryd.sizeOf20
  v20 := Tryd.zeroValue20
  t37 := Tryd.underlying30
  a37 := Tryd.isAgg30
  z37 := Tryd.sizeOf30
  v37 := Tryd.zeroValue30
  t46 := Tryd.underlying97
  a46 := Tryd.isAgg97
  z46 := Tryd.sizeOf97
  v46 := Tryd.zeroValue97
  t51 := Tryd.underlying171
  a51 := Tryd.isAgg171
  z51 := Tryd.sizeOf171
  v51 := Tryd.zeroValue171
  t53 := Tryd.underlying144
  a53 := Tryd.isAgg144
  z53 := Tryd.sizeOf144
  v53 := Tryd.zeroValue144
  t171 := Tryd.underlying150
  a171 := Tryd.isAgg150
  z171 := Tryd.sizeOf150
  v171 := Tryd.zeroValue150
  t173 := Tryd.underlying153
  a173 := Tryd.isAgg153
  z173 := Tryd.sizeOf153
  v173 := Tryd.zeroValue153
  t212 := Tryd.underlying170
  a212 := Tryd.isAgg170
  z212 := Tryd.sizeOf170
  v212 := Tryd.zeroValue170
  t213 := Tryd.underlying172
  a213 := Tryd.isAgg172
  z213 := Tryd.sizeOf172
  t232 := Tryd.underlying191
  a232 := Tryd.isAgg191
  z232 := Tryd.sizeOf191
  v232 := Tryd.zeroValue191
  t233 := Tryd.underlying192
  a233 := Tryd.isAgg192
  z233 := Tryd.sizeOf192
  v233 := Tryd.zeroValue192
  g17 := by kernel_rfl
  g18 := by kernel_rfl
  g19 := by kernel_rfl
  i0 := by kernel_rfl
  i2 := by kernel_rfl
  i3 := by kernel_rfl
  i4 := by kernel_rfl
  i5 := by kernel_rfl
  i9 := by kernel_rfl
  i20 := by kernel_rfl
  i37 := by kernel_rfl
  i46 := by kernel_rfl
  i51 := by kernel_rfl
  i53 := by kernel_rfl
  i171 := by kernel_rfl
  i173 := by kernel_rfl
  i212 := by kernel_rfl
  i232 := by kernel_rfl
  i233 := by kernel_rfl
  m17 := by kernel_rfl
  m18 := by kernel_rfl
  m19 := by kernel_rfl }
def Tryd.lays169_ren : Go.Shelf.Ren := ⟨fun | 169 => 51 | n => n, fun | 70 => 78 | 9 => 9 | 0 => 0 | 72 => 80 | 37 => 30 | 127 => 121 | 3 => 3 | 5 => 5 | n => n, fun | n => n⟩
theorem Tryd.lays169 : Go.Proofs.Lays.n169 Tryd.prog Tryd.lays169_ren := {
  mixed := by kernel_rfl
  f169 := Tryd.func51.trans (congrArg some (by kernel_rfl))
  t0 := Tryd.underlying0
  a0 := Tryd.isAgg0
  z0 := Tryd.sizeOf0
  v0 := Tryd.zeroValue0
  t3 := Tryd.underlying3
  a3 := Tryd.isAgg3
  z3 := Tryd.sizeOf3
  v3 := Tryd.zeroValue3
  t9 := Tryd.underlying9
  a9 := Tryd.isAgg9
  z9 := Tryd.sizeOf9
  v9 := Tryd.zeroValue9
  t37 := Tryd.underlying30
  a37 := Tryd.isAgg30
  z37 := Tryd.sizeOf30
  v37 := Tryd.zeroValue30
  t70 := Tryd.underlying78
  a70 := Tryd.isAgg78
  z70 := Tryd.sizeOf78
  v70 := Tryd.zeroValue78
  t72 := Tryd.underlying80
  a72 := Tryd.isAgg80
  z72 := Tryd.sizeOf80
  v72 := Tryd.zeroValue80
  t127 := Tryd.underlying121
  a127 := Tryd.isAgg121
  z127 := Tryd.sizeOf121
  v127 := Tryd.zeroValue121 }
theorem Tryd.Builder_Extra_169 : Builder.Extra Tryd.prog Tryd.lays169_ren := {
  sizeBuilder := by kernel_rfl
  liesBuilder := by kernel_rfl
  t5 := Tryd.underlying5
  a5 := Tryd.isAgg5
  z5 := Tryd.sizeOf5
  v5 := Tryd.zeroValue5
  infoByte := by kernel_rfl
  cellsByte := by kernel_rfl
  sizeByte := by kernel_rfl
  neB5 := by decide }

def Tryd.lays156_ren : Go.Shelf.Ren := ⟨fun | 156 => 50 | 165 => 85 | 166 => 49 | 169 => 51 | 240 => 84 | 241 => 106 | 276 => 105 | 277 => 116 | n => n, fun | 31 => 74 | 9 => 9 | 3 => 3 | 4 => 4 | 0 => 0 | 20 => 20 | 72 => 80 | 76 => 83 | 70 => 78 | 37 => 30 | 75 => 82 | 127 => 121 | 164 => 141 | 5 => 5 | 80 => 86 | n => n, fun | n => n⟩
theorem Tryd.lays156 : Go.Proofs.Lays.n156 Tryd.prog Tryd.lays156_ren := {
  mixed := by kernel_rfl
  f156 := Tryd.func50.trans (congrArg some (by kernel_rfl))
  f165 := Tryd.func85.trans (congrArg some (by kernel_rfl))
  f166 := Tryd.func49.trans (congrArg some (by kernel_rfl))
  f169 := Tryd.func51.trans (congrArg some (by kernel_rfl))
  f240 := Tryd.func84.trans (congrArg some (by kernel_rfl))
  f241 := Tryd.func106.trans (congrArg some (by kernel_rfl))
  f276 := Tryd.func105.trans (congrArg some (by kernel_rfl))
  f277 := Tryd.func116.trans (congrArg some (by kernel_rfl))
  t0 := Tryd.underlying0
  a0 := Tryd.isAgg0
  z0 := Tryd.sizeOf0
  v0 := Tryd.zeroValue0
  t3 := Tryd.underlying3
  a3 := Tryd.isAgg3
  z3 := Tryd.sizeOf3
  v3 := Tryd.zeroValue3
  t4 := Tryd.underlying4
  a4 := Tryd.isAgg4
  z4 := Tryd.sizeOf4
  v4 := Tryd.zeroValue4
  t9 := Tryd.underlying9
  a9 := Tryd.isAgg9
  z9 := Tryd.sizeOf9
  v9 := Tryd.zeroValue9
  t20 := Tryd.underlying20
  a20 := Tryd.isAgg20
  z20 := Tryd.sizeOf20
  v20 := Tryd.zeroValue20
  t31 := Tryd.underlying74
  a31 := Tryd.isAgg74
  z31 := Tryd.sizeOf74
  v31 := Tryd.zeroValue74
  t37 := Tryd.underlying30
  a37 := Tryd.isAgg30
  z37 := Tryd.sizeOf30
  v37 := Tryd.zeroValue30
  t70 := Tryd.underlying78
  a70 := Tryd.isAgg78
  z70 := Tryd.sizeOf78
  v70 := Tryd.zeroValue78
  t72 := Tryd.underlying80
  a72 := Tryd.isAgg80
  z72 := Tryd.sizeOf80
  v72 := Tryd.zeroValue80
  t75 := Tryd.underlying82
  a75 := Tryd.isAgg82
  z75 := Tryd.sizeOf82
  v75 := Tryd.zeroValue82
  t76 := Tryd.underlying83
  a76 := Tryd.isAgg83
  z76 := Tryd.sizeOf83
  v76 := Tryd.zeroValue83
  t127 := Tryd.underlying121
  a127 := Tryd.isAgg121
  z127 := Tryd.sizeOf121
  v127 := Tryd.zeroValue121
  t164 := Tryd.underlying141
  a164 := Tryd.isAgg141
  z164 := Tryd.sizeOf141
  v164 := Tryd.zeroValue141 }
theorem Tryd.Builder_Extra_156 : Builder.Extra Tryd.prog Tryd.lays156_ren := {
  sizeBuilder := by kernel_rfl
  liesBuilder := by kernel_rfl
  t5 := Tryd.underlying5
  a5 := Tryd.isAgg5
  z5 := Tryd.sizeOf5
  v5 := Tryd.zeroValue5
  infoByte := by kernel_rfl
  cellsByte := by kernel_rfl
  sizeByte := by kernel_rfl
  neB5 := by decide }
theorem Tryd.lays166 : Go.Proofs.Lays.n166 Tryd.prog Tryd.lays156_ren := {
  mixed := Tryd.lays156.mixed
  f166 := Tryd.lays156.f166
  f240 := Tryd.lays156.f240
  f276 := Tryd.lays156.f276
  t0 := Tryd.lays156.t0
  a0 := Tryd.lays156.a0
  z0 := Tryd.lays156.z0
  v0 := Tryd.lays156.v0
  t3 := Tryd.lays156.t3
  a3 := Tryd.lays156.a3
  z3 := Tryd.lays156.z3
  v3 := Tryd.lays156.v3
  t4 := Tryd.lays156.t4
  a4 := Tryd.lays156.a4
  z4 := Tryd.lays156.z4
  v4 := Tryd.lays156.v4
  t9 := Tryd.lays156.t9
  a9 := Tryd.lays156.a9
  z9 := Tryd.lays156.z9
  v9 := Tryd.lays156.v9
  t20 := Tryd.lays156.t20
  a20 := Tryd.lays156.a20
  z20 := Tryd.lays156.z20
  v20 := Tryd.lays156.v20
  t37 := Tryd.lays156.t37
  a37 := Tryd.lays156.a37
  z37 := Tryd.lays156.z37
  v37 := Tryd.lays156.v37
  t70 := Tryd.lays156.t70
  a70 := Tryd.lays156.a70
  z70 := Tryd.lays156.z70
  v70 := Tryd.lays156.v70
  t72 := Tryd.lays156.t72
  a72 := Tryd.lays156.a72
  z72 := Tryd.lays156.z72
  v72 := Tryd.lays156.v72
  t75 := Tryd.lays156.t75
  a75 := Tryd.lays156.a75
  z75 := Tryd.lays156.z75
  v75 := Tryd.lays156.v75
  t164 := Tryd.lays156.t164
  a164 := Tryd.lays156.a164
  z164 := Tryd.lays156.z164
  v164 := Tryd.lays156.v164 }

theorem itoa_fin : ∀ n : Fin 256, Lib.itoa ((n.val : Nat) : Int) = (decL (n.val : Int)).toList := by decide +kernel
theorem itoa_dec {i : Int} (h0 : 0 ≤ i) (h1 : i ≤ 255) : Lib.itoa i = (decL i).toList := by
  obtain ⟨n, rfl⟩ := Int.eq_ofNat_of_zero_le h0
  exact itoa_fin ⟨n, by omega⟩
theorem cells_decZ {i : Int} (h0 : 0 ≤ i) (h1 : i ≤ 255) : Lib.byteCells (Lib.itoa i) = bval (decZ i) := by
  rw [itoa_dec h0 h1]
  unfold Lib.byteCells bval decZ
  simp
theorem appendInt_walk (B : Nat) (i : Int) (h0 : 0 ≤ i) (h1 : i ≤ 255) (sv : Value) (zs : List Int) (w : World) (hown : OwnB w B sv zs) (hBw : B ≤ w.heap.size) (hlim : zs.length ≤ 1000)
    (htab : Lib.TabBelow Tryd.prog B w "internal/strconv.uint64pow10" .u64 Lib.pow10Tab) :
    Calls Tryd.prog 117 #[sv, .int .i64 i, .int .i64 10] w fun e w' => ∃ v', e = .returned v' ∧ OwnB w' B v' (zs ++ decZ i) ∧ Below B w w' := by
  have h := Any.strconv_AppendInt_10 Tryd.laysM176 B zs.length i (by omega) (by omega) sv (bval zs) w hown.1 hBw (by omega) htab
  refine h.mono ?_
  rintro e w' ⟨v', rfl, hown', hb, _⟩
  refine ⟨v', rfl, ?_, hb⟩
  rw [cells_decZ h0 h1] at hown'
  exact OwnB.app hown' (by rw [itoa_dec h0 h1]; unfold decZ; rw [List.length_map]) hown.2 (decZ_bd i)

theorem ia0 (a b c d : Int) (w : World) : (Instr.index 128 (.agg #[.int .u8 a, .int .u8 b, .int .u8 c, .int .u8 d]) (.int .i64 0)).run Tryd.prog w = .ok (.int .u8 a) w := by
  have u3 := Tryd.underlying5
  have a3 := Tryd.isAgg5
  have z3 := Tryd.sizeOf5
  simp only [Instr.index, Sem.run_bind, run_underlying Tryd.underlying128, Result.andThen_ok]
  go_simp
theorem ia1 (a b c d : Int) (w : World) : (Instr.index 128 (.agg #[.int .u8 a, .int .u8 b, .int .u8 c, .int .u8 d]) (.int .i64 1)).run Tryd.prog w = .ok (.int .u8 b) w := by
  have u3 := Tryd.underlying5
  have a3 := Tryd.isAgg5
  have z3 := Tryd.sizeOf5
  simp only [Instr.index, Sem.run_bind, run_underlying Tryd.underlying128, Result.andThen_ok]
  go_simp
theorem ia2 (a b c d : Int) (w : World) : (Instr.index 128 (.agg #[.int .u8 a, .int .u8 b, .int .u8 c, .int .u8 d]) (.int .i64 2)).run Tryd.prog w = .ok (.int .u8 c) w := by
  have u3 := Tryd.underlying5
  have a3 := Tryd.isAgg5
  have z3 := Tryd.sizeOf5
  simp only [Instr.index, Sem.run_bind, run_underlying Tryd.underlying128, Result.andThen_ok]
  go_simp
theorem ia3 (a b c d : Int) (w : World) : (Instr.index 128 (.agg #[.int .u8 a, .int .u8 b, .int .u8 c, .int .u8 d]) (.int .i64 3)).run Tryd.prog w = .ok (.int .u8 d) w := by
  have u3 := Tryd.underlying5
  have a3 := Tryd.isAgg5
  have z3 := Tryd.sizeOf5
  simp only [Instr.index, Sem.run_bind, run_underlying Tryd.underlying128, Result.andThen_ok]
  go_simp

theorem showAI_no (a : Int) (w : World) (h : adrB a = false) :
    Calls Tryd.prog 108 #[.int .i64 a] w fun e w' => e = .returned (.tuple #[.string ⟨#[]⟩, .int .i64 1]) ∧ Below w.heap.size w w' := by
  go_enter Tryd.func108, Tryd.ntmps108
  go_wp2_with (go_at_call 34; refine (isAddr_walk _ _).mono ?_; rintro e w' ⟨rfl, rfl⟩)
  go_ret2
  exact ⟨rfl, Below.refl _ _⟩
/-- The text's bytes as the program lays them: a point ahead of each number but the first. -/
def adM (a : Int) : Nat → List Int
  | 0 => []
  | k + 1 => (if 0 < k then adM a k ++ [46] else adM a k) ++ decZ (byteOf a 4 k)
theorem adM_succ (a : Int) (k : Nat) : adM a (k + 1) = (if 0 < k then adM a k ++ [46] else adM a k) ++ decZ (byteOf a 4 k) := rfl
theorem adM_len (a : Int) : ∀ k, k ≤ 4 → (adM a k).length ≤ 16 := by
  have h : ∀ k, (adM a k).length ≤ 4 * k := by
    intro k
    induction k with
    | zero => simp [adM]
    | succ k ih =>
      have := decZ_len (byteOf a 4 k)
      rw [adM]
      split <;> simp <;> omega
  intro k hk
  have := h k
  omega
/-- The text's bytes, written out. -/
def adU (a : Int) : List UInt8 := (decL (byteOf a 4 0)).toList ++ 46 :: ((decL (byteOf a 4 1)).toList ++ 46 :: ((decL (byteOf a 4 2)).toList ++ 46 :: (decL (byteOf a 4 3)).toList))
theorem adM_four (a : Int) : adM a 4 = (adU a).map (fun b => (b.toNat : Int)) := by simp [adM, adU, decZ]
theorem adU_text {a : Int} (h : adrB a = true) : (⟨(adU a).toArray⟩ : ByteArray) = showA a := by
  obtain ⟨h0, h1⟩ := adrB_iff.1 h
  have e0 : byteOf a 4 0 = a / 16777216 := by unfold byteOf; show a / 16777216 % 256 = _; omega
  have e1 : byteOf a 4 1 = a / 65536 % 256 := rfl
  have e2 : byteOf a 4 2 = a / 256 % 256 := rfl
  have e3 : byteOf a 4 3 = a % 256 := by unfold byteOf; show a / 1 % 256 = _; omega
  unfold adU showA
  rw [e0, e1, e2, e3]
  apply ByteArray.ext
  simp [ByteArray.data_append]
theorem adU_pos (a : Int) : 0 < (adU a).length := by unfold adU; simp; omega
theorem tab_later {B C : Nat} {w w1 : World} (h : Lib.TabBelow Tryd.prog B w "internal/strconv.uint64pow10" .u64 Lib.pow10Tab) (hb : Below B w w1) (hB : B ≤ C) : Lib.TabBelow Tryd.prog C w1 "internal/strconv.uint64pow10" .u64 Lib.pow10Tab :=
  fun w' h' => h w' (hb.trans (h'.mono hB))
attribute [local go_sem] ia0 ia1 ia2 ia3
set_option maxHeartbeats 2000000 in
theorem showAI_yes (a : Int) (w : World) (h : adrB a = true) (ht : Lib.TabBelow Tryd.prog w.heap.size w "internal/strconv.uint64pow10" .u64 Lib.pow10Tab) :
    Calls Tryd.prog 108 #[.int .i64 a] w fun e w' => e = .returned (.tuple #[.string (showA a), .int .i64 0]) ∧ Below w.heap.size w w' := by
  obtain ⟨h0, h1⟩ := adrB_iff.1 h
  have HA := hide h
  have HT := hide ht
  obtain ⟨i, hi, hz0, hz1, hz2⟩ := info_parts Tryd.infoB
  have HI := hide hi
  have HZ0 := hide hz0
  have HZ1 := hide hz1
  have HZ2 := hide hz2
  clear hi hz0 hz1 hz2 ht
  go_enter Tryd.func108, Tryd.ntmps108
  go_wp2_with fail
  refine (isAddr_walk _ _).mono ?_
  rw [h]
  rintro e w' ⟨rfl, hw'⟩
  rw [hw']
  clear hw' h
  go_wp2_with fail
  refine (splitAddr_walk a _).mono ?_
  rintro e w1 ⟨rfl, hb1⟩
  go_wp2_with fail
  go_loopw [4, 12] (fun o t w2 => ∃ (k : Nat), k ≤ 4 ∧ t = .int .i64 k ∧ Hid (OwnB w2 w1.heap.size o (adM a k)) ∧ Below w1.heap.size w1 w2) (fun _ t _ => 4 - (intOf t).toNat)
  case atStart => exact ⟨0, by omega, rfl, hide ⟨World.ownsRow_nil _ _ _ _, by simp [adM]⟩, Below.refl _ _⟩
  case round =>
    obtain ⟨k, hk, rfl, HO, hb⟩ := hrel
    by_cases hlt : k < 4
    · have bb := byteOf_bd a 4 k
      rcases (show k = 0 ∨ k = 1 ∨ k = 2 ∨ k = 3 by omega) with rfl | rfl | rfl | rfl
      · have hw := wrap_i64' (byteOf a 4 0) bb.1 (by omega)
        go_wp2_with (go_at_call 117; refine (appendInt_walk w1.heap.size (byteOf a 4 0) bb.1 bb.2 _ (adM a 0) _ HO.out hb.size (by have := adM_len a 0 (by omega); omega) (tab_later HT.out (hb1.trans (hb.mono hb1.size)) hb1.size)).mono ?_; rintro e w3 ⟨v3, rfl, hO3, hb3⟩)
        exact ⟨⟨1, by omega, by go_num, hide hO3, hb.trans hb3⟩, by simp [intOf]⟩
      · have hl0 : (adM a 1).length ≤ 16 := adM_len a 1 (by omega)
        have hw := wrap_i64' (byteOf a 4 1) bb.1 (by omega)
        go_wp2_with (first | (at_builtin; refine wpList_append_own _ rfl _ _ 30 rfl w1.heap.size 5 i _ 1 1 Tryd.underlying30 HI.out HZ0.out HZ1.out HZ2.out rfl (by decide) u4 (adM a 1).length (bval (adM a 1)) rfl (HO.out.1.alloc _) ⟨wr.heap.size, 0, none⟩ 1 1 (bval [46]) rfl rfl (cell_one _ _ _) (oneCells _) (by unfold maxLen; omega) (by omega) (by have := hb.size; rw [World.size_alloc]; omega) ?_))
        intro v2 w2 hown2 hgrow2 hnil2
        have hO2 := OwnB.app hown2 rfl HO.out.2 (by intro z hz; simp at hz; subst hz; decide)
        have HO2 := hide hO2
        have hl2 : (adM a 1 ++ [46]).length ≤ 17 := by rw [List.length_append]; show _ + 1 ≤ 17; omega
        have hlo2 := HO.out.1.lt
        have hb2 : Below w1.heap.size w1 w2 := (hb.alloc hb.size _).grown hgrow2 (by have := hb.size; rw [World.size_alloc]; omega) (fun k hk => (hlo2 k hk).1)
        clear hO2 hown2 hgrow2 hnil2 hlo2
        go_wp2_with (go_at_call 117; refine (appendInt_walk w1.heap.size (byteOf a 4 1) bb.1 bb.2 _ (adM a 1 ++ [46]) _ HO2.out hb2.size (by omega) (tab_later HT.out (hb1.trans (hb2.mono hb1.size)) hb1.size)).mono ?_; rintro e w3 ⟨v3, rfl, hO3, hb3⟩)
        exact ⟨⟨2, by omega, by go_num, hide hO3, hb2.trans hb3⟩, by simp [intOf]⟩
      · have hl0 : (adM a 2).length ≤ 16 := adM_len a 2 (by omega)
        have hw := wrap_i64' (byteOf a 4 2) bb.1 (by omega)
        go_wp2_with (first | (at_builtin; refine wpList_append_own _ rfl _ _ 30 rfl w1.heap.size 5 i _ 1 1 Tryd.underlying30 HI.out HZ0.out HZ1.out HZ2.out rfl (by decide) u4 (adM a 2).length (bval (adM a 2)) rfl (HO.out.1.alloc _) ⟨wr.heap.size, 0, none⟩ 1 1 (bval [46]) rfl rfl (cell_one _ _ _) (oneCells _) (by unfold maxLen; omega) (by omega) (by have := hb.size; rw [World.size_alloc]; omega) ?_))
        intro v2 w2 hown2 hgrow2 hnil2
        have hO2 := OwnB.app hown2 rfl HO.out.2 (by intro z hz; simp at hz; subst hz; decide)
        have HO2 := hide hO2
        have hl2 : (adM a 2 ++ [46]).length ≤ 17 := by rw [List.length_append]; show _ + 1 ≤ 17; omega
        have hlo2 := HO.out.1.lt
        have hb2 : Below w1.heap.size w1 w2 := (hb.alloc hb.size _).grown hgrow2 (by have := hb.size; rw [World.size_alloc]; omega) (fun k hk => (hlo2 k hk).1)
        clear hO2 hown2 hgrow2 hnil2 hlo2
        go_wp2_with (go_at_call 117; refine (appendInt_walk w1.heap.size (byteOf a 4 2) bb.1 bb.2 _ (adM a 2 ++ [46]) _ HO2.out hb2.size (by omega) (tab_later HT.out (hb1.trans (hb2.mono hb1.size)) hb1.size)).mono ?_; rintro e w3 ⟨v3, rfl, hO3, hb3⟩)
        exact ⟨⟨3, by omega, by go_num, hide hO3, hb2.trans hb3⟩, by simp [intOf]⟩
      · have hl0 : (adM a 3).length ≤ 16 := adM_len a 3 (by omega)
        have hw := wrap_i64' (byteOf a 4 3) bb.1 (by omega)
        go_wp2_with (first | (at_builtin; refine wpList_append_own _ rfl _ _ 30 rfl w1.heap.size 5 i _ 1 1 Tryd.underlying30 HI.out HZ0.out HZ1.out HZ2.out rfl (by decide) u4 (adM a 3).length (bval (adM a 3)) rfl (HO.out.1.alloc _) ⟨wr.heap.size, 0, none⟩ 1 1 (bval [46]) rfl rfl (cell_one _ _ _) (oneCells _) (by unfold maxLen; omega) (by omega) (by have := hb.size; rw [World.size_alloc]; omega) ?_))
        intro v2 w2 hown2 hgrow2 hnil2
        have hO2 := OwnB.app hown2 rfl HO.out.2 (by intro z hz; simp at hz; subst hz; decide)
        have HO2 := hide hO2
        have hl2 : (adM a 3 ++ [46]).length ≤ 17 := by rw [List.length_append]; show _ + 1 ≤ 17; omega
        have hlo2 := HO.out.1.lt
        have hb2 : Below w1.heap.size w1 w2 := (hb.alloc hb.size _).grown hgrow2 (by have := hb.size; rw [World.size_alloc]; omega) (fun k hk => (hlo2 k hk).1)
        clear hO2 hown2 hgrow2 hnil2 hlo2
        go_wp2_with (go_at_call 117; refine (appendInt_walk w1.heap.size (byteOf a 4 3) bb.1 bb.2 _ (adM a 3 ++ [46]) _ HO2.out hb2.size (by omega) (tab_later HT.out (hb1.trans (hb2.mono hb1.size)) hb1.size)).mono ?_; rintro e w3 ⟨v3, rfl, hO3, hb3⟩)
        exact ⟨⟨4, by omega, by go_num, hide hO3, hb2.trans hb3⟩, by simp [intOf]⟩
    · have hk4 : k = 4 := by omega
      subst hk4
      obtain ⟨g, cap, hv, hgB, hglt⟩ := HO.out.form (by rw [adM_four a, List.length_map]; exact adU_pos a)
      have hconv : (convert 30 9 u4).run Tryd.prog wr = .ok (.string (showA a)) wr := by
        rw [hv]
        have hcell : ∀ j (hj : j < (adU a).length), wr.cell? ((⟨g, 0, none⟩ : Addr).add j) = some (.int .u8 ((adU a)[j].toNat : Int)) := by
          intro j hj
          have hj2 : j < (adM a 4).length := by rw [adM_four a]; simpa using hj
          have hc := (hv ▸ HO.out.1 : wr.ownsRow w1.heap.size 5 1 (.slice (some ⟨g, 0, none⟩) (adM a 4).length cap) (adM a 4).length (bval (adM a 4))).cellAt j (by omega)
          rw [Addr.add_lit, Nat.zero_add, hc, bval_get _ _ hj2]
          have e : (adM a 4).getD j 0 = ((adU a)[j].toNat : Int) := by
            rw [List.getD_eq_getElem?_getD, adM_four a, List.getElem?_map, List.getElem?_eq_getElem hj]; rfl
          rw [e]
        have h := run_convert_bytes_back (P := Tryd.prog) wr 30 9 5 ⟨g, 0, none⟩ cap (adU a) Tryd.underlying30 Tryd.underlying5 Tryd.underlying9 hcell
        rw [adU_text HA.out] at h
        have hl : (adM a 4).length = (adU a).length := by rw [adM_four a]; simp
        rw [hl]; exact h
      clear hv
      go_wp2_with fail
      go_ret2
      exact ⟨rfl, hb1.trans (hb.mono hb1.size)⟩
end Go.Proofs.YtjojeplffefnpaaDoor
