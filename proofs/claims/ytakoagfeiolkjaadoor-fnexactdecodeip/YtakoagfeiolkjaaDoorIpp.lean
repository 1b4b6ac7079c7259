/-
Contracts of functions of this seat.
-/
import Derived.Test.YtakoagfeiolkjaaDoorRows
import Derived.WalkKit
import Derived.ProofKit
import Derived.OpenShut
import Derived.Test.YtakoagfeiolkjaaDoorIpe
import Derived.Test.YtakoagfeiolkjaaDoorCur
namespace Go.Proofs.YtakoagfeiolkjaaDoor
open Go.ChangeShapes Go.WideShapes Go.ChangeAt Go.RowKit
set_option linter.unusedVariables false
set_option maxRecDepth 100000
/-- A slice of nothing, wherever it lies. -/
theorem sl_nothing (b off n cap p : Nat) (hh : p ≤ cap) : ∃ a' : Option Addr, ∀ w : World, (Instr.slice 22 (.slice (some ⟨b, off, none⟩) n cap) (some (.int .i64 (p : Int))) (some (.int .i64 (p : Int))) none).run Tryd.prog w = .ok (.slice a' 0 (cap - p)) w := by
  have hs : ∀ w : World, (sizeOf (Tryd.prog.elem 22)).run Tryd.prog w = .ok 1 w := fun w => Tryd.sizeOf5 w
  have he := fun w : World => run_slice_lh (P := Tryd.prog) (w := w) 22 (some ⟨b, off, none⟩) n cap Tryd.underlying22 .i64 .i64 (p : Int) (p : Int) (by omega) (by omega) (by omega)
  refine ⟨if cap = p then some ⟨b, off, none⟩ else some ((⟨b, off, none⟩ : Addr).add p), fun w => ?_⟩
  rw [he, hs]
  simp [sliced, Result.andThen]
set_option maxHeartbeats 1000000 in
theorem pass_zero (g p n cap b off : Nat) (w : World) (hc : Cur w g (.slice (some ⟨b, off, none⟩) n cap) p .nilIface) (hn : n ≤ 140737488355328) (hp : p ≤ n) (hcap : n ≤ cap) :
    Calls Tryd.prog 31 #[.pointer (some ⟨g, 0, none⟩), .int .i64 0] w fun e w' => ∃ a', e = .returned (.slice a' 0 (cap - p)) ∧ Cur w' g (.slice (some ⟨b, off, none⟩) n cap) p .nilIface ∧ w.grownBy w' (some g) := by
  have CL := hide (left_walk g p n cap (some ⟨b, off, none⟩) .nilIface w hc hn (by omega))
  have HC := hide hc
  obtain ⟨c0, c1, c2, cf⟩ := hc.cells
  have hk1 : (0 : Int) ≤ (n : Int) - (p : Int) := by omega
  obtain ⟨a', sl⟩ := sl_nothing b off n cap p (by omega)
  clear hc
  go_enter Tryd.func31, Tryd.ntmps31
  go_wp2_with fail
  refine CL.out.mono ?_
  rintro e w1 ⟨rfl, m, rfl⟩
  go_wp2_with fail
  refine (demand_yes g p _ _ _ (HC.out.drewN m)).mono ?_
  rintro e w2 ⟨rfl, rfl⟩
  go_wp2_with fail
  have HS := hide ((HC.out.drewN m).place p)
  have HG := hide (grown_cell (w.drewN m) g 1 (.int .i64 (p : Int)))
  generalize (w.drewN m).setCell ⟨g, 1, none⟩ (.int .i64 (p : Int)) = W at *
  obtain ⟨d0, d1, d2, df⟩ := HS.out.cells
  clear c0 c1 c2 cf HC CL
  go_quiet (fail)
  go_wp2
  go_ret
  exact ⟨a', rfl, HS.out.drewN nq, ⟨HG.out.os, HG.out.tape, HG.out.output, HG.out.size, HG.out.block⟩⟩
theorem only_two {w w1 w2 : World} {g G : Nat} (h : w.grownBy w1 (some g)) (k : w1.grownBy w2 (some G)) : Only [g, G] w w2 :=
  ((Only.of_some h).mono (by simp)).trans ((Only.of_some k).mono (by simp))
/-- Bytes summed one by one: those at even places stand high. -/
def qsum (zs : List Int) : Nat → Int
  | 0 => 0
  | i + 1 => qsum zs i + zs.getD i 0 * (if i % 2 = 0 then 256 else 1)
theorem qsum_even (zs : List Int) (i : Nat) (h : i % 2 = 0) : qsum zs (i + 1) = qsum zs i + zs.getD i 0 * 256 := by rw [qsum, if_pos h]
theorem qsum_odd (zs : List Int) (i : Nat) (h : ¬ i % 2 = 0) : qsum zs (i + 1) = qsum zs i + zs.getD i 0 := by rw [qsum, if_neg h, Int.mul_one]
theorem qsum_pair (zs : List Int) : ∀ k : Nat, qsum zs (2 * k) = psum zs k
  | 0 => rfl
  | k + 1 => by
    rw [show 2 * (k + 1) = 2 * k + 1 + 1 by omega, qsum_odd zs (2 * k + 1) (by omega), qsum_even zs (2 * k) (by omega), qsum_pair zs k, psum]
    omega
theorem qsum_all {zs : List Int} {n : Nat} (hn : zs.length = n) : qsum zs n = psum zs ((n + 1) / 2) := by
  by_cases h : n % 2 = 0
  · rw [show (n + 1) / 2 = n / 2 by omega, ← qsum_pair, show 2 * (n / 2) = n by omega]
  · rw [← qsum_pair, show 2 * ((n + 1) / 2) = n + 1 by omega, qsum_odd zs n h, List.getD_eq_getElem?_getD, List.getElem?_eq_none (by omega)]
    simp
theorem qsum_bd {zs : List Int} (h : ∀ z ∈ zs, 0 ≤ z ∧ z ≤ 255) : ∀ i : Nat, 0 ≤ qsum zs i ∧ qsum zs i ≤ 65535 * (i : Int)
  | 0 => by simp [qsum]
  | i + 1 => by
    have h1 := qsum_bd h i
    have h2 := getD_bd h i
    by_cases e : i % 2 = 0
    · rw [qsum_even zs i e]; omega
    · rw [qsum_odd zs i e]; omega
def shf (i : Nat) : Int := if i % 2 = 0 then 8 else 0
/-- How many bytes stand in the first rows. -/
def ofs (ls : List (List Int)) (i : Nat) : Nat := (ls.take i).flatten.length
theorem ofs_succ (ls : List (List Int)) (i : Nat) (h : i < ls.length) : ofs ls (i + 1) = ofs ls i + (ls.getD i []).length := by
  unfold ofs
  rw [List.take_add_one, List.flatten_append, List.length_append, List.getD_eq_getElem?_getD, List.getElem?_eq_getElem h]
  simp
theorem ofs_all (ls : List (List Int)) : ofs ls ls.length = ls.flatten.length := by unfold ofs; rw [List.take_length]
theorem ofs_get (ls : List (List Int)) (i j : Nat) (h : i < ls.length) (hj : j < (ls.getD i []).length) : ls.flatten.getD (ofs ls i + j) 0 = (ls.getD i []).getD j 0 := by
  have e : ls = ls.take i ++ (ls.getD i [] :: ls.drop (i + 1)) := by
    rw [List.getD_eq_getElem?_getD, List.getElem?_eq_getElem h]
    simp
  have e2 : ls.flatten = (ls.take i).flatten ++ (ls.getD i [] ++ (ls.drop (i + 1)).flatten) := by
    have := congrArg List.flatten e
    rw [List.flatten_append, List.flatten_cons] at this
    exact this
  rw [e2]
  unfold ofs
  rw [List.getD_eq_getElem?_getD, List.getElem?_append_right (by omega), Nat.add_sub_cancel_left, List.getElem?_append_left hj, ← List.getD_eq_getElem?_getD]
theorem ofs_le (ls : List (List Int)) (i : Nat) (h : i < ls.length) : ofs ls i + (ls.getD i []).length ≤ ls.flatten.length := by
  rw [← ofs_succ ls i h]
  unfold ofs
  have e : (ls.take (i + 1)).flatten ++ (ls.drop (i + 1)).flatten = ls.flatten := by rw [← List.flatten_append, List.take_append_drop]
  rw [← e, List.length_append]
  omega
/-- Rows of bytes whose slices lie in the cells of a row. -/
def Parts (w : World) (b off : Nat) (ls : List (List Int)) : Prop := ∀ i, i < ls.length → ∃ (a : Option Addr) (n cap : Nat), w.cell? ⟨b, off + i, none⟩ = some (.slice a n cap) ∧ (ls.getD i []).length = n ∧ Arr w a (ls.getD i [])
set_option maxHeartbeats 2000000 in
theorem checksumOf_walk (b off m cap : Nat) (ls : List (List Int)) (w : World) (hm : ls.length = m) (hp : Parts w b off ls) (hz : ∀ z ∈ ls.flatten, 0 ≤ z ∧ z ≤ 255) (hl : ls.flatten.length ≤ 2097152) (hM : m ≤ 1048576) :
    Calls Tryd.prog 45 #[.slice (some ⟨b, off, none⟩) m cap] w fun e w' => e = .returned (.int .i64 (65535 - fold (psum ls.flatten ((ls.flatten.length + 1) / 2)))) ∧ w' = w := by
  have HM := hide hm
  have HP := hide hp
  have HZ := hide hz
  have HL := hide hl
  clear hm hp hz hl
  go_enter Tryd.func45, Tryd.ntmps45
  go_wp2_with fail
  go_loop [3, 4, 11] (fun s h t => ∃ i : Nat, i ≤ m ∧ t = .int .i64 i ∧ s = .int .u64 (qsum ls.flatten (ofs ls i)) ∧ h = .int .i64 (shf (ofs ls i))) (fun _ _ t => m - (intOf t).toNat)
  case atStart => exact ⟨0, by omega, rfl, rfl, rfl⟩
  case round =>
    obtain ⟨i, hi, rfl, rfl, rfl⟩ := hrel
    by_cases hlt : i < m
    · have HI : Hid (i < ls.length) := hide (by rw [HM.out]; exact hlt)
      obtain ⟨a, n, cp, hc, hn, ha⟩ := HP.out i HI.out
      have HN := hide hn
      have HA := hide ha
      have HO := hide (ofs_le ls i HI.out)
      have HS := hide (ofs_succ ls i HI.out)
      rw [hn] at HO HS
      clear hn ha
      generalize ho : ofs ls i = o at *
      have HOO := hide ho
      clear ho
      have hnb : n ≤ 2097152 := by have h1 := HO.out; have h2 := HL.out; omega
      go_wp2_with fail
      go_loop [3, 4, 17] (fun s h t => ∃ j : Nat, j ≤ n ∧ t = .int .i64 j ∧ s = .int .u64 (qsum ls.flatten (o + j)) ∧ h = .int .i64 (shf (o + j))) (fun _ _ t => n - (intOf t).toNat)
      case atStart => exact ⟨0, by omega, rfl, rfl, rfl⟩
      case round =>
        obtain ⟨j, hj, rfl, rfl, rfl⟩ := hrel
        by_cases hlj : j < n
        · obtain ⟨b', off', rfl, hbs, hcj⟩ := HA.out.2 j (by rw [HN.out]; exact hlj)
          have hzj := getD_bd HA.out.1 j
          have HG : Hid (ls.flatten.getD (o + j) 0 = (ls.getD i []).getD j 0) := hide (by rw [← HOO.out]; exact ofs_get ls i j HI.out (by rw [HN.out]; exact hlj))
          have hq := qsum_bd HZ.out (o + j)
          have hoj : o + j ≤ 2097152 := by have h1 := HO.out; have h2 := HL.out; omega
          have hq2 : qsum ls.flatten (o + j) ≤ 137438953472 := by omega
          have hq1 := hq.1
          clear hq
          by_cases he : (o + j) % 2 = 0
          · have HQ := hide (qsum_even ls.flatten (o + j) he)
            rw [HG.out] at HQ
            have s1 : shf (o + j) = 8 := by unfold shf; rw [if_pos he]
            have S2 : Hid (shf (o + (j + 1)) = 0) := hide (by unfold shf; rw [if_neg (by omega)])
            rw [s1]
            clear he s1 HG
            generalize (ls.getD i []).getD j 0 = x at *
            generalize qsum ls.flatten (o + j) = s at *
            go_wp2
            go_round
            case rel => exact ⟨j + 1, by omega, by go_num, by rw [← Nat.add_assoc, HQ.out], by rw [S2.out]⟩
            case measure => simp [intOf]; omega
          · have HQ := hide (qsum_odd ls.flatten (o + j) he)
            rw [HG.out] at HQ
            have s1 : shf (o + j) = 0 := by unfold shf; rw [if_neg he]
            have S2 : Hid (shf (o + (j + 1)) = 8) := hide (by unfold shf; rw [if_pos (by omega)])
            rw [s1]
            clear he s1 HG
            generalize (ls.getD i []).getD j 0 = x at *
            generalize qsum ls.flatten (o + j) = s at *
            go_wp2
            go_round
            case rel => exact ⟨j + 1, by omega, by go_num, by rw [← Nat.add_assoc, HQ.out], by rw [S2.out]⟩
            case measure => simp [intOf]; omega
        · have hjn : j = n := by omega
          subst hjn
          go_wp2_with fail
          go_round
          case rel => exact ⟨i + 1, by omega, by go_num, by rw [HS.out], by rw [HS.out]⟩
          case measure => simp [intOf]; omega
    · have him : i = m := by omega
      have HQ : Hid (qsum ls.flatten (ofs ls i) = psum ls.flatten ((ls.flatten.length + 1) / 2)) := hide (by rw [him, ← HM.out, ofs_all]; exact qsum_all rfl)
      have hq := qsum_bd HZ.out (ofs ls i)
      have hq2 : qsum ls.flatten (ofs ls i) ≤ 137438953472 := by
        have h1 : ofs ls i = ls.flatten.length := by rw [him, ← HM.out, ofs_all]
        have h2 := HL.out
        omega
      have hq1 := hq.1
      clear hq him
      generalize qsum ls.flatten (ofs ls i) = s at *
      go_wp2_with (go_at_call 50; refine (fold_walk _ (by omega) (by omega) _).mono ?_; rintro e w' ⟨rfl, rfl⟩)
      go_ret
      exact ⟨ret_int (by rw [HQ.out]), rfl⟩

set_option maxHeartbeats 2000000 in
theorem checksum_walk (a : Option Addr) (n cap : Nat) (zs : List Int) (w : World) (hn : zs.length = n) (ha : Arr w a zs) (hm : n ≤ 1048576) :
    Calls Tryd.prog 30 #[.slice a n cap] w fun e w' => e = .returned (.int .i64 (65535 - fold (psum zs ((n + 1) / 2)))) ∧ Below w.heap.size w w' ∧ w.heap.size ≤ w'.heap.size := by
  have HB := hide ((Below.refl w.heap.size w).alloc (Nat.le_refl _) (.cells #[.slice a n cap] 22))
  have e1 : [zs].flatten = zs := by simp
  have HC := hide (checksumOf_walk w.heap.size 0 1 1 [zs] (w.alloc (.cells #[.slice a n cap] 22)) rfl (by
    intro i hi
    have h0 : i = 0 := by simpa using hi
    subst h0
    refine ⟨a, n, cap, ?_, hn, ha.below HB.out (Nat.le_refl _)⟩
    exact (cell_of_row _ w.heap.size 0 _ _ (0, 0) (heap_alloc_new w _)).trans rfl) (by rw [e1]; exact ha.1) (by rw [e1, hn]; omega) (by omega))
  rw [e1, hn] at HC
  clear e1 hn ha
  go_enter Tryd.func30, Tryd.ntmps30
  go_wp2_with (go_at_call 45; refine HC.out.mono ?_; rintro e w' ⟨rfl, rfl⟩)
  go_ret
  exact ⟨rfl, HB.out, HB.out.size⟩

theorem pass_on2 (g G N p : Nat) (w : World) (hc : Cur w g (.slice (some ⟨G, 0, none⟩) N N) p .nilIface) (hb : N ≤ 1048576) (hk : p + 2 ≤ N) :
    Calls Tryd.prog 31 #[.pointer (some ⟨g, 0, none⟩), .int .i64 2] w fun e w' => e = .returned (.slice (some ⟨G, p, none⟩) 2 (N - p)) ∧ Cur w' g (.slice (some ⟨G, 0, none⟩) N N) (p + 2) .nilIface ∧ w.grownBy w' (some g) := by
  have h := pass_ok g p N N G 0 2 w hc (by omega) hk (by omega) (Nat.le_refl _)
  rw [Nat.zero_add] at h
  exact h
theorem rep_two (done : List Int) (m : Nat) (h : 2 ≤ m) : done ++ List.replicate m 0 = (done ++ [0, 0]) ++ List.replicate (m - 2) 0 := by
  obtain ⟨k, rfl⟩ : ∃ k, m = k + 2 := ⟨m - 2, by omega⟩
  rw [Nat.add_sub_cancel, List.append_assoc]
  rfl
theorem row_prefix {w : World} {G : Nat} {D : List Int} {m : Nat} (h : RowB w G (D ++ List.replicate m 0)) (hb : ∀ z ∈ D, 0 ≤ z ∧ z ≤ 255) : Arr w (some ⟨G, 0, none⟩) D := by
  have h1 := (h.arr (fun z hz => by
    rcases List.mem_append.1 hz with hz | hz
    · exact hb z hz
    · have := List.eq_of_mem_replicate hz; omega)).take D.length
  rw [List.take_left] at h1
  exact h1
theorem arr_only {w w' : World} {a : Option Addr} {zs : List Int} {S : List Nat} (h : Arr w a zs) (k : Only S w w') (hn : ∀ j, j < zs.length → ∃ b off, a = some ⟨b, off, none⟩ ∧ b ∉ S) : Arr w' a zs :=
  ⟨h.1, fun j hj => by
    obtain ⟨b, off, e, hlt, hcell⟩ := h.2 j hj
    obtain ⟨b', off', e', hb⟩ := hn j hj
    rw [e] at e'
    cases e'
    exact ⟨b, off, e, Nat.lt_of_lt_of_le hlt k.size, by rw [World.cell?_of_block (a := ⟨b, off + j, none⟩) (k.block b hlt hb)]; exact hcell⟩⟩

/-- A head lies in block H. -/
def HdC (w : World) (H : Nat) (f x0 wh x1 fl x5 x6 x7 x8 : Int) (v : Value) : Prop := w.heap[H]? = some (.cells #[.int .i64 f, .int .i64 x0, .int .i64 wh, .int .i64 x1, .int .i64 fl, .int .i64 x5, .int .i64 x6, .int .i64 x7, .int .i64 x8, v] 53)
theorem HdC.lt {w : World} {H : Nat} {f x0 wh x1 fl x5 x6 x7 x8 : Int} {v : Value} (h : HdC w H f x0 wh x1 fl x5 x6 x7 x8 v) : H < w.heap.size := (Array.getElem?_eq_some_iff.1 h).1
theorem HdC.only {w w' : World} {H : Nat} {S : List Nat} {f x0 wh x1 fl x5 x6 x7 x8 : Int} {v : Value} (h : HdC w H f x0 wh x1 fl x5 x6 x7 x8 v) (k : Only S w w') (hn : H ∉ S) : HdC w' H f x0 wh x1 fl x5 x6 x7 x8 v := (k.block H h.lt hn).trans h
theorem HdC.cells {w : World} {H : Nat} {f x0 wh x1 fl x5 x6 x7 x8 : Int} {v : Value} (h : HdC w H f x0 wh x1 fl x5 x6 x7 x8 v) : w.cell? ⟨H, 0, none⟩ = some (.int .i64 f) ∧ w.cell? ⟨H, 1, none⟩ = some (.int .i64 x0) ∧ w.cell? ⟨H, 2, none⟩ = some (.int .i64 wh) ∧ w.cell? ⟨H, 3, none⟩ = some (.int .i64 x1) ∧ w.cell? ⟨H, 4, none⟩ = some (.int .i64 fl) ∧ w.cell? ⟨H, 5, none⟩ = some (.int .i64 x5) ∧ w.cell? ⟨H, 6, none⟩ = some (.int .i64 x6) ∧ w.cell? ⟨H, 7, none⟩ = some (.int .i64 x7) ∧ w.cell? ⟨H, 8, none⟩ = some (.int .i64 x8) ∧ w.cell? ⟨H, 9, none⟩ = some v :=
  ⟨cell_of_row w H 0 _ _ _ h, cell_of_row w H 1 _ _ _ h, cell_of_row w H 2 _ _ _ h, cell_of_row w H 3 _ _ _ h, cell_of_row w H 4 _ _ _ h, cell_of_row w H 5 _ _ _ h, cell_of_row w H 6 _ _ _ h, cell_of_row w H 7 _ _ _ h, cell_of_row w H 8 _ _ _ h, cell_of_row w H 9 _ _ _ h⟩
/-- The bytes of a head, its sum 0. -/
def hdB (f x0 wh x1 fl x5 x6 x7 x8 : Int) (z0 : List Int) : List Int := putL f 1 ++ putL x0 1 ++ putL wh 2 ++ putL x1 2 ++ putL fl 2 ++ putL x5 1 ++ putL x6 1 ++ [0, 0] ++ putL x7 4 ++ putL x8 4 ++ z0
theorem hdB_len (f x0 wh x1 fl x5 x6 x7 x8 : Int) (z0 : List Int) : (hdB f x0 wh x1 fl x5 x6 x7 x8 z0).length = 20 + z0.length := by unfold hdB; simp [putL_len]; omega
theorem hdB_bd (f x0 wh x1 fl x5 x6 x7 x8 : Int) (z0 : List Int) (h : ∀ z ∈ z0, 0 ≤ z ∧ z ≤ 255) : ∀ z ∈ hdB f x0 wh x1 fl x5 x6 x7 x8 z0, 0 ≤ z ∧ z ≤ 255 := by
  intro z hz
  unfold hdB at hz
  simp only [List.mem_append] at hz
  rcases hz with (((((((((hz | hz) | hz) | hz) | hz) | hz) | hz) | hz) | hz) | hz) | hz
  any_goals exact putL_bd _ _ z hz
  · simp only [List.mem_cons, List.not_mem_nil, or_false] at hz; omega
  · exact h z hz
end Go.Proofs.YtakoagfeiolkjaaDoor
