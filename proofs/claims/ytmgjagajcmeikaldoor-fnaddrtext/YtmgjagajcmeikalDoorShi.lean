/-
Contracts of functions of this seat.
-/
import Derived.Test.YtmgjagajcmeikalDoorRows
import Derived.WalkKit
import Derived.ProofKit
import Derived.OpenShut
import Derived.Test.YtmgjagajcmeikalDoorSha
import Derived.Shelf.Strconv.Itoa0
import Derived.Shelf.Strconv.Itoa1
import Derived.Shelf.LaysM
import Derived.Shelf.Strconv.Itoa2
import Derived.Shelf.Strconv.Itoa3
import Derived.Shelf.Strconv.Itoa4
import Derived.Shelf.Strings.Search1
import Derived.Shelf.Strings.Search2
import Derived.Shelf.Strings.Cut
import Derived.Shelf.Strings.Shaped
import Derived.Shelf.Strconv.AppendUint10
import Derived.Shelf.Strconv.AppendInt10
import Derived.Shelf.Strconv.AppendIntPublic10
import Derived.Lib.AppendIntMem
import Derived.Laws.IdiomStrings
namespace Go.Proofs.YtmgjagajcmeikalDoor
open Go.ChangeShapes Go.WideShapes Go.ChangeAt Go.RowKit
set_option linter.unusedVariables false
def decZ (n : Int) : List Int := (decL n).toList.map (fun b => (b.toNat : Int))
theorem decZ_len (n : Int) : (decZ n).length ≤ 3 := by
  unfold decZ
  rw [List.length_map]
  exact decL_size (n := n)
theorem decZ_bd (n : Int) : ∀ z ∈ decZ n, 0 ≤ z ∧ z ≤ 255 := by
  intro z hz
  obtain ⟨b, _, rfl⟩ := List.mem_map.1 hz
  have := b.toNat_lt
  omega

def Tryd.laysM176_ren : Go.Shelf.Ren := ⟨fun | 176 => 16 | 249 => 34 | 288 => 45 | 283 => 48 | 284 => 49 | 285 => 50 | 286 => 51 | 129 => 57 | 317 => 56 | 318 => 58 | 319 => 59 | 320 => 60 | 337 => 63 | 338 => 64 | n => n, fun | 37 => 22 | 2 => 2 | 3 => 3 | 53 => 23 | 4 => 4 | 9 => 9 | 171 => 77 | 0 => 0 | 173 => 80 | 212 => 85 | 51 => 86 | 5 => 5 | 20 => 20 | 213 => 87 | 46 => 29 | 232 => 93 | 233 => 94 | n => n, fun | 17 => 1 | 18 => 2 | 19 => 3 | n => n⟩
theorem Tryd.laysM176 : Go.Proofs.LaysM.n176 Tryd.prog Tryd.laysM176_ren := {
  mixed := by kernel_rfl
  f129 := Tryd.func57.trans (congrArg some (by kernel_rfl))
  f176 := Tryd.func16.trans (congrArg some (by kernel_rfl))
  f249 := Tryd.func34.trans (congrArg some (by kernel_rfl))
  f283 := Tryd.func48.trans (congrArg some (by kernel_rfl))
  f284 := Tryd.func49.trans (congrArg some (by kernel_rfl))
  f285 := Tryd.func50.trans (congrArg some (by kernel_rfl))
  f286 := Tryd.func51.trans (congrArg some (by kernel_rfl))
  f288 := Tryd.func45.trans (congrArg some (by kernel_rfl))
  f317 := Tryd.func56.trans (congrArg some (by kernel_rfl))
  f318 := Tryd.func58.trans (congrArg some (by kernel_rfl))
  f319 := Tryd.func59.trans (congrArg some (by kernel_rfl))
  f320 := Tryd.func60.trans (congrArg some (by kernel_rfl))
  f337 := Tryd.func63.trans (congrArg some (by kernel_rfl))
  f338 := Tryd.func64.trans (congrArg some (by kernel_rfl))
  t0 := Tryd.underlying0
  a0 := Tryd.isAgg0
  z0 := Tryd.sizeOf0
  v0 := Tryd.zeroValue0
  t2 := Tryd.underlying2
  a2 := Tryd.isAgg2
  z2 := Tryd.sizeOf2
  v2 := Tryd.zeroValue2
  t3 := Tryd.underlying3
  a3 := Tryd.isAgg3
  z3 := Tryd.sizeOf3
  v3 := Tryd.zeroValue3
  t4 := Tryd.underlying4
  a4 := Tryd.isAgg4
  z4 := Tryd.sizeOf4
  v4 := Tryd.zeroValue4
  t5 := Tryd.underlying5
  a5 := Tryd.isAgg5
  z5 := Tryd.sizeOf5
  v5 := Tryd.zeroValue5
  t9 := Tryd.underlying9
  a9 := Tryd.isAgg9
  z9 := Tryd.sizeOf9
  v9 := Tryd.zeroValue9
  t20 := Tryd.underlying20
  a20 := Tryd.isAgg20
  z20 := Tryd.sizeOf20
  v20 := Tryd.zeroValue20
  t37 := Tryd.underlying22
  a37 := Tryd.isAgg22
  z37 := Tryd.sizeOf22
  v37 := Tryd.zeroValue22
  t46 := Tryd.underlying29
  a46 := Tryd.isAgg29
  z46 := Tryd.sizeOf29
  v46 := Tryd.zeroValue29
  t51 := Tryd.underlying86
  a51 := Tryd.isAgg86
  z51 := Tryd.sizeOf86
  v51 := Tryd.zeroValue86
  t53 := Tryd.underlying23
  a53 := Tryd.isAgg23
  z53 := Tryd.sizeOf23
  v53 := Tryd.zeroValue23
  t171 := Tryd.underlying77
  a171 := Tryd.isAgg77
  z171 := Tryd.sizeOf77
  v171 := Tryd.zeroValue77
  t173 := Tryd.underlying80
  a173 := Tryd.isAgg80
  z173 := Tryd.sizeOf80
  v173 := Tryd.zeroValue80
  t212 := Tryd.underlying85
  a212 := Tryd.isAgg85
  z212 := Tryd.sizeOf85
  v212 := Tryd.zeroValue85
  t213 := Tryd.underlying87
  a213 := Tryd.isAgg87
  z213 := Tryd.sizeOf87
  t232 := Tryd.underlying93
  a232 := Tryd.isAgg93
  z232 := Tryd.sizeOf93
  v232 := Tryd.zeroValue93
  t233 := Tryd.underlying94
  a233 := Tryd.isAgg94
  z233 := Tryd.sizeOf94
  v233 := Tryd.zeroValue94
  g17 := by kernel_rfl
  g18 := by kernel_rfl
  g19 := by kernel_rfl
  i0 := by kernel_rfl
  i2 := by kernel_rfl
  i3 := by kernel_rfl
  i4 := by kernel_rfl
  i5 := by kernel_rfl
  i9 := by kernel_rfl
  i20 := by kernel_rfl
  i37 := by kernel_rfl
  i46 := by kernel_rfl
  i51 := by kernel_rfl
  i53 := by kernel_rfl
  i171 := by kernel_rfl
  i173 := by kernel_rfl
  i212 := by kernel_rfl
  i232 := by kernel_rfl
  i233 := by kernel_rfl
  m17 := by kernel_rfl
  m18 := by kernel_rfl
  m19 := by kernel_rfl }
def Tryd.lays173_ren : Go.Shelf.Ren := ⟨fun | 173 => 32 | 246 => 44 | 283 => 48 | 284 => 49 | 285 => 50 | 286 => 51 | 129 => 57 | 317 => 56 | 318 => 58 | 319 => 59 | 320 => 60 | 337 => 63 | 338 => 64 | n => n, fun | 2 => 2 | 3 => 3 | 9 => 9 | 4 => 4 | 171 => 77 | 0 => 0 | 53 => 23 | 37 => 22 | 5 => 5 | 173 => 80 | 212 => 85 | 51 => 86 | 20 => 20 | 213 => 87 | 46 => 29 | 232 => 93 | 233 => 94 | n => n, fun | 17 => 1 | 18 => 2 | 19 => 3 | n => n⟩
theorem Tryd.lays173 : Go.Proofs.Lays.n173 Tryd.prog Tryd.lays173_ren := {
  mixed := by kernel_rfl
  f129 := Tryd.func57.trans (congrArg some (by kernel_rfl))
  f173 := Tryd.func32.trans (congrArg some (by kernel_rfl))
  f246 := Tryd.func44.trans (congrArg some (by kernel_rfl))
  f283 := Tryd.func48.trans (congrArg some (by kernel_rfl))
  f284 := Tryd.func49.trans (congrArg some (by kernel_rfl))
  f285 := Tryd.func50.trans (congrArg some (by kernel_rfl))
  f286 := Tryd.func51.trans (congrArg some (by kernel_rfl))
  f317 := Tryd.func56.trans (congrArg some (by kernel_rfl))
  f318 := Tryd.func58.trans (congrArg some (by kernel_rfl))
  f319 := Tryd.func59.trans (congrArg some (by kernel_rfl))
  f320 := Tryd.func60.trans (congrArg some (by kernel_rfl))
  f337 := Tryd.func63.trans (congrArg some (by kernel_rfl))
  f338 := Tryd.func64.trans (congrArg some (by kernel_rfl))
  t0 := Tryd.underlying0
  a0 := Tryd.isAgg0
  z0 := Tryd.sizeOf0
  v0 := Tryd.zeroValue0
  t2 := Tryd.underlying2
  a2 := Tryd.isAgg2
  z2 := Tryd.sizeOf2
  v2 := Tryd.zeroValue2
  t3 := Tryd.underlying3
  a3 := Tryd.isAgg3
  z3 := Tryd.sizeOf3
  v3 := Tryd.zeroValue3
  t4 := Tryd.underlying4
  a4 := Tryd.isAgg4
  z4 := Tryd.sizeOf4
  v4 := Tryd.zeroValue4
  t5 := Tryd.underlying5
  a5 := Tryd.isAgg5
  z5 := Tryd.sizeOf5
  v5 := Tryd.zeroValue5
  t9 := Tryd.underlying9
  a9 := Tryd.isAgg9
  z9 := Tryd.sizeOf9
  v9 := Tryd.zeroValue9
  t20 := Tryd.underlying20
  a20 := Tryd.isAgg20
  z20 := Tryd.sizeOf20
  v20 := Tryd.zeroValue20
  t37 := Tryd.underlying22
  a37 := Tryd.isAgg22
  z37 := Tryd.sizeOf22
  v37 := Tryd.zeroValue22
  t46 := Tryd.underlying29
  a46 := Tryd.isAgg29
  z46 := Tryd.sizeOf29
  v46 := Tryd.zeroValue29
  t51 := Tryd.underlying86
  a51 := Tryd.isAgg86
  z51 := Tryd.sizeOf86
  v51 := Tryd.zeroValue86
  t53 := Tryd.underlying23
  a53 := Tryd.isAgg23
  z53 := Tryd.sizeOf23
  v53 := Tryd.zeroValue23
  t171 := Tryd.underlying77
  a171 := Tryd.isAgg77
  z171 := Tryd.sizeOf77
  v171 := Tryd.zeroValue77
  t173 := Tryd.underlying80
  a173 := Tryd.isAgg80
  z173 := Tryd.sizeOf80
  v173 := Tryd.zeroValue80
  t212 := Tryd.underlying85
  a212 := Tryd.isAgg85
  z212 := Tryd.sizeOf85
  v212 := Tryd.zeroValue85
  t213 := Tryd.underlying87
  a213 := Tryd.isAgg87
  z213 := Tryd.sizeOf87
  t232 := Tryd.underlying93
  a232 := Tryd.isAgg93
  z232 := Tryd.sizeOf93
  v232 := Tryd.zeroValue93
  t233 := Tryd.underlying94
  a233 := Tryd.isAgg94
  z233 := Tryd.sizeOf94
  v233 := Tryd.zeroValue94
  g17 := by kernel_rfl
  g18 := by kernel_rfl
  g19 := by kernel_rfl }

theorem itoa_fin : ∀ n : Fin 256, Lib.itoa ((n.val : Nat) : Int) = (decL (n.val : Int)).toList := by decide +kernel
theorem itoa_dec {i : Int} (h0 : 0 ≤ i) (h1 : i ≤ 255) : Lib.itoa i = (decL i).toList := by
  obtain ⟨n, rfl⟩ := Int.eq_ofNat_of_zero_le h0
  exact itoa_fin ⟨n, by omega⟩
theorem cells_decZ {i : Int} (h0 : 0 ≤ i) (h1 : i ≤ 255) : Lib.byteCells (Lib.itoa i) = bval (decZ i) := by
  rw [itoa_dec h0 h1]
  unfold Lib.byteCells bval decZ
  simp
theorem appendInt_walk (B : Nat) (i : Int) (h0 : 0 ≤ i) (h1 : i ≤ 255) (sv : Value) (zs : List Int) (w : World) (hown : OwnB w B sv zs) (hBw : B ≤ w.heap.size) (hlim : zs.length ≤ 1000)
    (htab : Lib.TabBelow Tryd.prog B w "internal/strconv.uint64pow10" .u64 Lib.pow10Tab) :
    Calls Tryd.prog 16 #[sv, .int .i64 i, .int .i64 10] w fun e w' => ∃ v', e = .returned v' ∧ OwnB w' B v' (zs ++ decZ i) ∧ Below B w w' := by
  have h := Any.strconv_AppendInt_10 Tryd.laysM176 B zs.length i (by omega) (by omega) sv (bval zs) w hown.1 hBw (by omega) htab
  refine h.mono ?_
  rintro e w' ⟨v', rfl, hown', hb, _⟩
  refine ⟨v', rfl, ?_, hb⟩
  rw [cells_decZ h0 h1] at hown'
  exact OwnB.app hown' (by rw [itoa_dec h0 h1]; unfold decZ; rw [List.length_map]) hown.2 (decZ_bd i)

theorem ia0 (a b c d : Int) (w : World) : (Instr.index 43 (.agg #[.int .u8 a, .int .u8 b, .int .u8 c, .int .u8 d]) (.int .i64 0)).run Tryd.prog w = .ok (.int .u8 a) w := by
  have u3 := Tryd.underlying5
  have a3 := Tryd.isAgg5
  have z3 := Tryd.sizeOf5
  simp only [Instr.index, Sem.run_bind, run_underlying Tryd.underlying43, Result.andThen_ok]
  go_simp
theorem ia1 (a b c d : Int) (w : World) : (Instr.index 43 (.agg #[.int .u8 a, .int .u8 b, .int .u8 c, .int .u8 d]) (.int .i64 1)).run Tryd.prog w = .ok (.int .u8 b) w := by
  have u3 := Tryd.underlying5
  have a3 := Tryd.isAgg5
  have z3 := Tryd.sizeOf5
  simp only [Instr.index, Sem.run_bind, run_underlying Tryd.underlying43, Result.andThen_ok]
  go_simp
theorem ia2 (a b c d : Int) (w : World) : (Instr.index 43 (.agg #[.int .u8 a, .int .u8 b, .int .u8 c, .int .u8 d]) (.int .i64 2)).run Tryd.prog w = .ok (.int .u8 c) w := by
  have u3 := Tryd.underlying5
  have a3 := Tryd.isAgg5
  have z3 := Tryd.sizeOf5
  simp only [Instr.index, Sem.run_bind, run_underlying Tryd.underlying43, Result.andThen_ok]
  go_simp
theorem ia3 (a b c d : Int) (w : World) : (Instr.index 43 (.agg #[.int .u8 a, .int .u8 b, .int .u8 c, .int .u8 d]) (.int .i64 3)).run Tryd.prog w = .ok (.int .u8 d) w := by
  have u3 := Tryd.underlying5
  have a3 := Tryd.isAgg5
  have z3 := Tryd.sizeOf5
  simp only [Instr.index, Sem.run_bind, run_underlying Tryd.underlying43, Result.andThen_ok]
  go_simp

theorem showAI_no (a : Int) (w : World) (h : adrB a = false) :
    Calls Tryd.prog 6 #[.int .i64 a] w fun e w' => e = .returned (.tuple #[.string ⟨#[]⟩, .int .i64 1]) ∧ Below w.heap.size w w' := by
  go_enter Tryd.func6, Tryd.ntmps6
  go_wp2_with (go_at_call 14; refine (isAddr_walk _ _).mono ?_; rintro e w' ⟨rfl, rfl⟩)
  go_ret2
  exact ⟨rfl, Below.refl _ _⟩
/-- The text's bytes as the program lays them: a point ahead of each number but the first. -/
def adM (a : Int) : Nat → List Int
  | 0 => []
  | k + 1 => (if 0 < k then adM a k ++ [46] else adM a k) ++ decZ (byteOf a 4 k)
theorem adM_succ (a : Int) (k : Nat) : adM a (k + 1) = (if 0 < k then adM a k ++ [46] else adM a k) ++ decZ (byteOf a 4 k) := rfl
theorem adM_len (a : Int) : ∀ k, k ≤ 4 → (adM a k).length ≤ 16 := by
  have h : ∀ k, (adM a k).length ≤ 4 * k := by
    intro k
    induction k with
    | zero => simp [adM]
    | succ k ih =>
      have := decZ_len (byteOf a 4 k)
      rw [adM]
      split <;> simp <;> omega
  intro k hk
  have := h k
  omega
/-- The text's bytes, written out. -/
def adU (a : Int) : List UInt8 := (decL (byteOf a 4 0)).toList ++ 46 :: ((decL (byteOf a 4 1)).toList ++ 46 :: ((decL (byteOf a 4 2)).toList ++ 46 :: (decL (byteOf a 4 3)).toList))
theorem adM_four (a : Int) : adM a 4 = (adU a).map (fun b => (b.toNat : Int)) := by simp [adM, adU, decZ]
theorem adU_text {a : Int} (h : adrB a = true) : (⟨(adU a).toArray⟩ : ByteArray) = showA a := by
  obtain ⟨h0, h1⟩ := adrB_iff.1 h
  have e0 : byteOf a 4 0 = a / 16777216 := by unfold byteOf; show a / 16777216 % 256 = _; omega
  have e1 : byteOf a 4 1 = a / 65536 % 256 := rfl
  have e2 : byteOf a 4 2 = a / 256 % 256 := rfl
  have e3 : byteOf a 4 3 = a % 256 := by unfold byteOf; show a / 1 % 256 = _; omega
  unfold adU showA
  rw [e0, e1, e2, e3]
  apply ByteArray.ext
  simp [ByteArray.data_append]
theorem adU_pos (a : Int) : 0 < (adU a).length := by unfold adU; simp; omega
theorem tab_later {B C : Nat} {w w1 : World} (h : Lib.TabBelow Tryd.prog B w "internal/strconv.uint64pow10" .u64 Lib.pow10Tab) (hb : Below B w w1) (hB : B ≤ C) : Lib.TabBelow Tryd.prog C w1 "internal/strconv.uint64pow10" .u64 Lib.pow10Tab :=
  fun w' h' => h w' (hb.trans (h'.mono hB))
attribute [local go_sem] ia0 ia1 ia2 ia3
set_option maxHeartbeats 2000000 in
theorem showAI_yes (a : Int) (w : World) (h : adrB a = true) (ht : Lib.TabBelow Tryd.prog w.heap.size w "internal/strconv.uint64pow10" .u64 Lib.pow10Tab) :
    Calls Tryd.prog 6 #[.int .i64 a] w fun e w' => e = .returned (.tuple #[.string (showA a), .int .i64 0]) ∧ Below w.heap.size w w' := by
  obtain ⟨h0, h1⟩ := adrB_iff.1 h
  have HA := hide h
  have HT := hide ht
  obtain ⟨i, hi, hz0, hz1, hz2⟩ := info_parts Tryd.infoB
  have HI := hide hi
  have HZ0 := hide hz0
  have HZ1 := hide hz1
  have HZ2 := hide hz2
  clear hi hz0 hz1 hz2 ht
  go_enter Tryd.func6, Tryd.ntmps6
  go_wp2_with fail
  refine (isAddr_walk _ _).mono ?_
  rw [h]
  rintro e w' ⟨rfl, hw'⟩
  rw [hw']
  clear hw' h
  go_wp2_with fail
  refine (splitAddr_walk a _).mono ?_
  rintro e w1 ⟨rfl, hb1⟩
  go_wp2_with fail
  go_loopw [4, 12] (fun o t w2 => ∃ (k : Nat), k ≤ 4 ∧ t = .int .i64 k ∧ Hid (OwnB w2 w1.heap.size o (adM a k)) ∧ Below w1.heap.size w1 w2) (fun _ t _ => 4 - (intOf t).toNat)
  case atStart => exact ⟨0, by omega, rfl, hide ⟨World.ownsRow_nil _ _ _ _, by simp [adM]⟩, Below.refl _ _⟩
  case round =>
    obtain ⟨k, hk, rfl, HO, hb⟩ := hrel
    by_cases hlt : k < 4
    · have bb := byteOf_bd a 4 k
      rcases (show k = 0 ∨ k = 1 ∨ k = 2 ∨ k = 3 by omega) with rfl | rfl | rfl | rfl
      · have hw := wrap_i64' (byteOf a 4 0) bb.1 (by omega)
        go_wp2_with (go_at_call 16; refine (appendInt_walk w1.heap.size (byteOf a 4 0) bb.1 bb.2 _ (adM a 0) _ HO.out hb.size (by have := adM_len a 0 (by omega); omega) (tab_later HT.out (hb1.trans (hb.mono hb1.size)) hb1.size)).mono ?_; rintro e w3 ⟨v3, rfl, hO3, hb3⟩)
        exact ⟨⟨1, by omega, by go_num, hide hO3, hb.trans hb3⟩, by simp [intOf]⟩
      · have hl0 : (adM a 1).length ≤ 16 := adM_len a 1 (by omega)
        have hw := wrap_i64' (byteOf a 4 1) bb.1 (by omega)
        go_wp2_with (first | (at_builtin; refine wpList_append_own _ rfl _ _ 22 rfl w1.heap.size 5 i _ 1 1 Tryd.underlying22 HI.out HZ0.out HZ1.out HZ2.out rfl (by decide) u4 (adM a 1).length (bval (adM a 1)) rfl (HO.out.1.alloc _) ⟨wr.heap.size, 0, none⟩ 1 1 (bval [46]) rfl rfl (cell_one _ _ _) (oneCells _) (by unfold maxLen; omega) (by omega) (by have := hb.size; rw [World.size_alloc]; omega) ?_))
        intro v2 w2 hown2 hgrow2 hnil2
        have hO2 := OwnB.app hown2 rfl HO.out.2 (by intro z hz; simp at hz; subst hz; decide)
        have HO2 := hide hO2
        have hl2 : (adM a 1 ++ [46]).length ≤ 17 := by rw [List.length_append]; show _ + 1 ≤ 17; omega
        have hlo2 := HO.out.1.lt
        have hb2 : Below w1.heap.size w1 w2 := (hb.alloc hb.size _).grown hgrow2 (by have := hb.size; rw [World.size_alloc]; omega) (fun k hk => (hlo2 k hk).1)
        clear hO2 hown2 hgrow2 hnil2 hlo2
        go_wp2_with (go_at_call 16; refine (appendInt_walk w1.heap.size (byteOf a 4 1) bb.1 bb.2 _ (adM a 1 ++ [46]) _ HO2.out hb2.size (by omega) (tab_later HT.out (hb1.trans (hb2.mono hb1.size)) hb1.size)).mono ?_; rintro e w3 ⟨v3, rfl, hO3, hb3⟩)
        exact ⟨⟨2, by omega, by go_num, hide hO3, hb2.trans hb3⟩, by simp [intOf]⟩
      · have hl0 : (adM a 2).length ≤ 16 := adM_len a 2 (by omega)
        have hw := wrap_i64' (byteOf a 4 2) bb.1 (by omega)
        go_wp2_with (first | (at_builtin; refine wpList_append_own _ rfl _ _ 22 rfl w1.heap.size 5 i _ 1 1 Tryd.underlying22 HI.out HZ0.out HZ1.out HZ2.out rfl (by decide) u4 (adM a 2).length (bval (adM a 2)) rfl (HO.out.1.alloc _) ⟨wr.heap.size, 0, none⟩ 1 1 (bval [46]) rfl rfl (cell_one _ _ _) (oneCells _) (by unfold maxLen; omega) (by omega) (by have := hb.size; rw [World.size_alloc]; omega) ?_))
        intro v2 w2 hown2 hgrow2 hnil2
        have hO2 := OwnB.app hown2 rfl HO.out.2 (by intro z hz; simp at hz; subst hz; decide)
        have HO2 := hide hO2
        have hl2 : (adM a 2 ++ [46]).length ≤ 17 := by rw [List.length_append]; show _ + 1 ≤ 17; omega
        have hlo2 := HO.out.1.lt
        have hb2 : Below w1.heap.size w1 w2 := (hb.alloc hb.size _).grown hgrow2 (by have := hb.size; rw [World.size_alloc]; omega) (fun k hk => (hlo2 k hk).1)
        clear hO2 hown2 hgrow2 hnil2 hlo2
        go_wp2_with (go_at_call 16; refine (appendInt_walk w1.heap.size (byteOf a 4 2) bb.1 bb.2 _ (adM a 2 ++ [46]) _ HO2.out hb2.size (by omega) (tab_later HT.out (hb1.trans (hb2.mono hb1.size)) hb1.size)).mono ?_; rintro e w3 ⟨v3, rfl, hO3, hb3⟩)
        exact ⟨⟨3, by omega, by go_num, hide hO3, hb2.trans hb3⟩, by simp [intOf]⟩
      · have hl0 : (adM a 3).length ≤ 16 := adM_len a 3 (by omega)
        have hw := wrap_i64' (byteOf a 4 3) bb.1 (by omega)
        go_wp2_with (first | (at_builtin; refine wpList_append_own _ rfl _ _ 22 rfl w1.heap.size 5 i _ 1 1 Tryd.underlying22 HI.out HZ0.out HZ1.out HZ2.out rfl (by decide) u4 (adM a 3).length (bval (adM a 3)) rfl (HO.out.1.alloc _) ⟨wr.heap.size, 0, none⟩ 1 1 (bval [46]) rfl rfl (cell_one _ _ _) (oneCells _) (by unfold maxLen; omega) (by omega) (by have := hb.size; rw [World.size_alloc]; omega) ?_))
        intro v2 w2 hown2 hgrow2 hnil2
        have hO2 := OwnB.app hown2 rfl HO.out.2 (by intro z hz; simp at hz; subst hz; decide)
        have HO2 := hide hO2
        have hl2 : (adM a 3 ++ [46]).length ≤ 17 := by rw [List.length_append]; show _ + 1 ≤ 17; omega
        have hlo2 := HO.out.1.lt
        have hb2 : Below w1.heap.size w1 w2 := (hb.alloc hb.size _).grown hgrow2 (by have := hb.size; rw [World.size_alloc]; omega) (fun k hk => (hlo2 k hk).1)
        clear hO2 hown2 hgrow2 hnil2 hlo2
        go_wp2_with (go_at_call 16; refine (appendInt_walk w1.heap.size (byteOf a 4 3) bb.1 bb.2 _ (adM a 3 ++ [46]) _ HO2.out hb2.size (by omega) (tab_later HT.out (hb1.trans (hb2.mono hb1.size)) hb1.size)).mono ?_; rintro e w3 ⟨v3, rfl, hO3, hb3⟩)
        exact ⟨⟨4, by omega, by go_num, hide hO3, hb2.trans hb3⟩, by simp [intOf]⟩
    · have hk4 : k = 4 := by omega
      subst hk4
      obtain ⟨g, cap, hv, hgB, hglt⟩ := HO.out.form (by rw [adM_four a, List.length_map]; exact adU_pos a)
      have hconv : (convert 22 9 u4).run Tryd.prog wr = .ok (.string (showA a)) wr := by
        rw [hv]
        have hcell : ∀ j (hj : j < (adU a).length), wr.cell? ((⟨g, 0, none⟩ : Addr).add j) = some (.int .u8 ((adU a)[j].toNat : Int)) := by
          intro j hj
          have hj2 : j < (adM a 4).length := by rw [adM_four a]; simpa using hj
          have hc := (hv ▸ HO.out.1 : wr.ownsRow w1.heap.size 5 1 (.slice (some ⟨g, 0, none⟩) (adM a 4).length cap) (adM a 4).length (bval (adM a 4))).cellAt j (by omega)
          rw [Addr.add_lit, Nat.zero_add, hc, bval_get _ _ hj2]
          have e : (adM a 4).getD j 0 = ((adU a)[j].toNat : Int) := by
            rw [List.getD_eq_getElem?_getD, adM_four a, List.getElem?_map, List.getElem?_eq_getElem hj]; rfl
          rw [e]
        have h := run_convert_bytes_back (P := Tryd.prog) wr 22 9 5 ⟨g, 0, none⟩ cap (adU a) Tryd.underlying22 Tryd.underlying5 Tryd.underlying9 hcell
        rw [adU_text HA.out] at h
        have hl : (adM a 4).length = (adU a).length := by rw [adM_four a]; simp
        rw [hl]; exact h
      clear hv
      go_wp2_with fail
      go_ret2
      exact ⟨rfl, hb1.trans (hb.mono hb1.size)⟩
end Go.Proofs.YtmgjagajcmeikalDoor
