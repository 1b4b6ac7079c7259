/-
Contracts of functions of this seat.
-/
import Derived.Test.YtakoagfeiolkjabDoorRows
import Derived.WalkKit
import Derived.ProofKit
import Derived.OpenShut
import Derived.Test.YtakoagfeiolkjabDoorIpe
import Derived.Test.YtakoagfeiolkjabDoorCur
namespace Go.Proofs.YtakoagfeiolkjabDoor
open Go.ChangeShapes Go.WideShapes Go.ChangeAt Go.RowKit
set_option linter.unusedVariables false
set_option maxRecDepth 100000
/-- A slice of nothing, wherever it lies. -/
theorem sl_nothing (b off n cap p : Nat) (hh : p ≤ cap) : ∃ a' : Option Addr, ∀ w : World, (Instr.slice 22 (.slice (some ⟨b, off, none⟩) n cap) (some (.int .i64 (p : Int))) (some (.int .i64 (p : Int))) none).run Tryd.prog w = .ok (.slice a' 0 (cap - p)) w := by
  have hs : ∀ w : World, (sizeOf (Tryd.prog.elem 22)).run Tryd.prog w = .ok 1 w := fun w => Tryd.sizeOf5 w
  have he := fun w : World => run_slice_lh (P := Tryd.prog) (w := w) 22 (some ⟨b, off, none⟩) n cap Tryd.underlying22 .i64 .i64 (p : Int) (p : Int) (by omega) (by omega) (by omega)
  refine ⟨if cap = p then some ⟨b, off, none⟩ else some ((⟨b, off, none⟩ : Addr).add p), fun w => ?_⟩
  rw [he, hs]
  simp [sliced, Result.andThen]
set_option maxHeartbeats 1000000 in
theorem pass_zero (g p n cap b off : Nat) (w : World) (hc : Cur w g (.slice (some ⟨b, off, none⟩) n cap) p .nilIface) (hn : n ≤ 140737488355328) (hp : p ≤ n) (hcap : n ≤ cap) :
    Calls Tryd.prog 67 #[.pointer (some ⟨g, 0, none⟩), .int .i64 0] w fun e w' => ∃ a', e = .returned (.slice a' 0 (cap - p)) ∧ Cur w' g (.slice (some ⟨b, off, none⟩) n cap) p .nilIface ∧ w.grownBy w' (some g) := by
  have CL := hide (left_walk g p n cap (some ⟨b, off, none⟩) .nilIface w hc hn (by omega))
  have HC := hide hc
  obtain ⟨c0, c1, c2, cf⟩ := hc.cells
  have hk1 : (0 : Int) ≤ (n : Int) - (p : Int) := by omega
  obtain ⟨a', sl⟩ := sl_nothing b off n cap p (by omega)
  clear hc
  go_enter Tryd.func67, Tryd.ntmps67
  go_wp2_with fail
  refine CL.out.mono ?_
  rintro e w1 ⟨rfl, m, rfl⟩
  go_wp2_with fail
  refine (demand_yes g p _ _ _ (HC.out.drewN m)).mono ?_
  rintro e w2 ⟨rfl, rfl⟩
  go_wp2_with fail
  have HS := hide ((HC.out.drewN m).place p)
  have HG := hide (grown_cell (w.drewN m) g 1 (.int .i64 (p : Int)))
  generalize (w.drewN m).setCell ⟨g, 1, none⟩ (.int .i64 (p : Int)) = W at *
  obtain ⟨d0, d1, d2, df⟩ := HS.out.cells
  clear c0 c1 c2 cf HC CL
  go_quiet (fail)
  go_wp2
  go_ret
  exact ⟨a', rfl, HS.out.drewN nq, ⟨HG.out.os, HG.out.tape, HG.out.output, HG.out.size, HG.out.block⟩⟩
theorem only_two {w w1 w2 : World} {g G : Nat} (h : w.grownBy w1 (some g)) (k : w1.grownBy w2 (some G)) : Only [g, G] w w2 :=
  ((Only.of_some h).mono (by simp)).trans ((Only.of_some k).mono (by simp))
set_option maxHeartbeats 1000000 in
theorem put_only (g p G N k : Nat) (v : Int) (xs : List Int) (w : World) (hc : Cur w g (.slice (some ⟨G, 0, none⟩) N N) p .nilIface) (hr : RowB w G xs) (hg : g < G) (hx : xs.length = N) (hN : N ≤ 1048576) (hk : p + k ≤ N) (hp : p < N) (h8 : k ≤ 8) :
    Calls Tryd.prog 66 #[.pointer (some ⟨g, 0, none⟩), .int .i64 v, .int .i64 (k : Int)] w fun e w' => e = .returned (.tuple #[]) ∧ Cur w' g (.slice (some ⟨G, 0, none⟩) N N) (p + k) .nilIface ∧ RowB w' G (splice xs p (putL v k)) ∧ Only [g, G] w w' := by
  have cp := pass_ok g p N N G 0 k w hc (by omega) hk hp (Nat.le_refl _)
  rw [Nat.zero_add] at cp
  have CP := hide cp
  clear cp
  have hgl := hc.lt
  have HR := hide hr
  have HX := hide hx
  clear hc hr hx
  go_enter Tryd.func66, Tryd.ntmps66
  go_wp2_with fail
  refine CP.out.mono ?_
  rintro e w1 ⟨rfl, hc1, hg1⟩
  have HC1 := hide hc1
  have hr1 := HR.out.kept hg1 (by intro e; cases e; omega)
  have CN := hide (putNumber_at G p k (N - p) v xs w1 h8 hr1 (by rw [HX.out]; omega))
  have HB1 := hide hg1
  clear hc1 hg1 hr1
  go_wp2_with fail
  refine CN.out.mono ?_
  rintro e w2 ⟨rfl, hr2, hg2⟩
  have HC2 := hide (HC1.out.kept hg2 (by intro e; cases e; omega))
  have HB2 := hide (only_two HB1.out hg2)
  have HR2 := hide hr2
  clear hr2 hg2
  go_wp2_with fail
  go_end0
  exact ⟨rfl, HC2.out, HR2.out, HB2.out⟩
theorem put_onl (g G N p m k : Nat) (v : Int) (done : List Int) (w : World) (hc : Cur w g (.slice (some ⟨G, 0, none⟩) N N) p .nilIface) (hr : RowB w G (done ++ List.replicate m 0)) (hg : g < G) (hp : done.length = p) (hN : p + m = N) (hb : N ≤ 1048576) (hk : k ≤ m) (hm : 0 < m) (h8 : k ≤ 8) :
    Calls Tryd.prog 66 #[.pointer (some ⟨g, 0, none⟩), .int .i64 v, .int .i64 (k : Int)] w fun e w' => e = .returned (.tuple #[]) ∧ Cur w' g (.slice (some ⟨G, 0, none⟩) N N) (p + k) .nilIface ∧ RowB w' G ((done ++ putL v k) ++ List.replicate (m - k) 0) ∧ Only [g, G] w w' := by
  have h := put_only g p G N k v _ w hc hr hg (by rw [List.length_append, List.length_replicate, hp, hN]) hb (by omega) (by omega) h8
  rw [splice_fill done _ p m hp, putL_len] at h
  exact h
set_option maxHeartbeats 1000000 in
theorem putBytes_only (g p G N n cap : Nat) (a : Option Addr) (xs zs : List Int) (w : World) (hc : Cur w g (.slice (some ⟨G, 0, none⟩) N N) p .nilIface) (hr : RowB w G xs) (hg : g < G) (hx : xs.length = N) (hN : N ≤ 1048576) (hk : p + n ≤ N) (hp : p < N) (hn : zs.length = n) (ha : Arr w a zs) (hag : ∀ j, j < zs.length → ∃ b off, a = some ⟨b, off, none⟩ ∧ b < g) :
    Calls Tryd.prog 63 #[.pointer (some ⟨g, 0, none⟩), .slice a n cap] w fun e w' => e = .returned (.tuple #[]) ∧ Cur w' g (.slice (some ⟨G, 0, none⟩) N N) (p + n) .nilIface ∧ RowB w' G (splice xs p zs) ∧ Only [g, G] w w' := by
  have cp := pass_ok g p N N G 0 n w hc (by omega) hk hp (Nat.le_refl _)
  rw [Nat.zero_add] at cp
  have CP := hide cp
  clear cp
  have hgl := hc.lt
  have HR := hide hr
  have HX := hide hx
  have HN := hide hn
  have HA := hide ha
  have HAG := hide hag
  clear hc hr hx ha hn hag
  go_enter Tryd.func63, Tryd.ntmps63
  go_wp2_with fail
  refine CP.out.mono ?_
  rintro e w1 ⟨rfl, hc1, hg1⟩
  have HC1 := hide hc1
  have HR1 := hide (HR.out.kept hg1 (by intro e; cases e; omega))
  have HB1 := hide (grown_under hg1 (Nat.le_refl g) (by omega))
  have HG1 := hide hg1
  have HA1 : Hid (∀ j v, (bval zs)[j]? = some v → ∃ b off, a = some ⟨b, off, none⟩ ∧ w1.cell? ⟨b, off + j, none⟩ = some v) := hide (by
    intro j v hv
    have hj : j < zs.length := by
      have := (List.getElem?_eq_some_iff.1 hv).1
      simpa [bval] using this
    obtain ⟨b, off, e, hlt, hcell⟩ := HA.out.2 j hj
    refine ⟨b, off, e, ?_⟩
    rw [HB1.out.cell (p := ⟨b, off + j, none⟩) (by obtain ⟨b2, o2, e2, h2⟩ := HAG.out j hj; rw [e] at e2; cases e2; exact h2), hcell, ← bval_get zs j hj, hv])
  clear hc1 hg1
  obtain ⟨W, hrun, hrow, hgW⟩ := copy_into 3 G p n (N - p) cap a xs zs w1 HR1.out HN.out (by rw [HX.out]; omega) HA1.out
  have HRW := hide hrow
  have HGW := hide hgW
  clear hrow hgW
  go_wp2_with fail
  go_end0
  exact ⟨rfl, HC1.out.kept HGW.out (by intro e; cases e; omega), HRW.out, only_two HG1.out HGW.out⟩
set_option maxHeartbeats 1000000 in
theorem putBytes_zero (g p G N cap : Nat) (a : Option Addr) (w : World) (hc : Cur w g (.slice (some ⟨G, 0, none⟩) N N) p .nilIface) (hN : N ≤ 1048576) (hp : p ≤ N) :
    Calls Tryd.prog 63 #[.pointer (some ⟨g, 0, none⟩), .slice a 0 cap] w fun e w' => e = .returned (.tuple #[]) ∧ Cur w' g (.slice (some ⟨G, 0, none⟩) N N) p .nilIface ∧ w.grownBy w' (some g) := by
  have CP := hide (pass_zero g p N N G 0 w hc (by omega) hp (Nat.le_refl _))
  obtain ⟨i, hi, hz0, hz1, hz2⟩ := info_parts Tryd.infoB
  have hs : (Tryd.prog.info? 5).map (·.size) = some 1 := by rw [hi]; simp [hz1]
  have HR := hide (fun w (d : Option Addr) => run_copy_none (P := Tryd.prog) w 22 22 3 5 d a 0 (N - p) 0 cap Tryd.underlying22 hs (by simp))
  clear hi hz0 hz1 hz2 hs hc
  go_enter Tryd.func63, Tryd.ntmps63
  go_wp2_with fail
  refine CP.out.mono ?_
  rintro e w1 ⟨a', rfl, hc1, hg1⟩
  have HC1 := hide hc1
  have HG1 := hide hg1
  clear hc1 hg1
  have hr := HR.out w1 a'
  go_wp2_with fail
  go_end0
  exact ⟨rfl, HC1.out, HG1.out⟩
theorem putBytes_onl (g G N p m n cap : Nat) (a : Option Addr) (done zs : List Int) (w : World) (hc : Cur w g (.slice (some ⟨G, 0, none⟩) N N) p .nilIface) (hr : RowB w G (done ++ List.replicate m 0)) (hg : g < G) (hp : done.length = p) (hN : p + m = N) (hb : N ≤ 1048576) (hk : n ≤ m) (hn : zs.length = n) (ha : Arr w a zs) (hag : ∀ j, j < zs.length → ∃ b off, a = some ⟨b, off, none⟩ ∧ b < g) :
    Calls Tryd.prog 63 #[.pointer (some ⟨g, 0, none⟩), .slice a n cap] w fun e w' => e = .returned (.tuple #[]) ∧ Cur w' g (.slice (some ⟨G, 0, none⟩) N N) (p + n) .nilIface ∧ RowB w' G ((done ++ zs) ++ List.replicate (m - n) 0) ∧ Only [g, G] w w' := by
  cases n with
  | zero =>
    have e : zs = [] := List.length_eq_zero_iff.1 hn
    subst e
    refine (putBytes_zero g p G N cap a w hc hb (by omega)).mono ?_
    rintro e w' ⟨rfl, hc', hg'⟩
    exact ⟨rfl, hc', by simpa using hr.kept hg' (by intro e; cases e; omega), (Only.of_some hg').mono (by simp)⟩
  | succ k =>
    have h := putBytes_only g p G N (k + 1) cap a _ zs w hc hr hg (by rw [List.length_append, List.length_replicate, hp, hN]) hb (by omega) (by omega) hn ha hag
    rw [splice_fill done _ p m hp, hn] at h
    exact h

/-- Bytes summed one by one: those at even places stand high. -/
def qsum (zs : List Int) : Nat → Int
  | 0 => 0
  | i + 1 => qsum zs i + zs.getD i 0 * (if i % 2 = 0 then 256 else 1)
theorem qsum_even (zs : List Int) (i : Nat) (h : i % 2 = 0) : qsum zs (i + 1) = qsum zs i + zs.getD i 0 * 256 := by rw [qsum, if_pos h]
theorem qsum_odd (zs : List Int) (i : Nat) (h : ¬ i % 2 = 0) : qsum zs (i + 1) = qsum zs i + zs.getD i 0 := by rw [qsum, if_neg h, Int.mul_one]
theorem qsum_pair (zs : List Int) : ∀ k : Nat, qsum zs (2 * k) = psum zs k
  | 0 => rfl
  | k + 1 => by
    rw [show 2 * (k + 1) = 2 * k + 1 + 1 by omega, qsum_odd zs (2 * k + 1) (by omega), qsum_even zs (2 * k) (by omega), qsum_pair zs k, psum]
    omega
theorem qsum_all {zs : List Int} {n : Nat} (hn : zs.length = n) : qsum zs n = psum zs ((n + 1) / 2) := by
  by_cases h : n % 2 = 0
  · rw [show (n + 1) / 2 = n / 2 by omega, ← qsum_pair, show 2 * (n / 2) = n by omega]
  · rw [← qsum_pair, show 2 * ((n + 1) / 2) = n + 1 by omega, qsum_odd zs n h, List.getD_eq_getElem?_getD, List.getElem?_eq_none (by omega)]
    simp
theorem qsum_bd {zs : List Int} (h : ∀ z ∈ zs, 0 ≤ z ∧ z ≤ 255) : ∀ i : Nat, 0 ≤ qsum zs i ∧ qsum zs i ≤ 65535 * (i : Int)
  | 0 => by simp [qsum]
  | i + 1 => by
    have h1 := qsum_bd h i
    have h2 := getD_bd h i
    by_cases e : i % 2 = 0
    · rw [qsum_even zs i e]; omega
    · rw [qsum_odd zs i e]; omega
def shf (i : Nat) : Int := if i % 2 = 0 then 8 else 0
/-- How many bytes stand in the first rows. -/
def ofs (ls : List (List Int)) (i : Nat) : Nat := (ls.take i).flatten.length
theorem ofs_succ (ls : List (List Int)) (i : Nat) (h : i < ls.length) : ofs ls (i + 1) = ofs ls i + (ls.getD i []).length := by
  unfold ofs
  rw [List.take_add_one, List.flatten_append, List.length_append, List.getD_eq_getElem?_getD, List.getElem?_eq_getElem h]
  simp
theorem ofs_all (ls : List (List Int)) : ofs ls ls.length = ls.flatten.length := by unfold ofs; rw [List.take_length]
theorem ofs_get (ls : List (List Int)) (i j : Nat) (h : i < ls.length) (hj : j < (ls.getD i []).length) : ls.flatten.getD (ofs ls i + j) 0 = (ls.getD i []).getD j 0 := by
  have e : ls = ls.take i ++ (ls.getD i [] :: ls.drop (i + 1)) := by
    rw [List.getD_eq_getElem?_getD, List.getElem?_eq_getElem h]
    simp
  have e2 : ls.flatten = (ls.take i).flatten ++ (ls.getD i [] ++ (ls.drop (i + 1)).flatten) := by
    have := congrArg List.flatten e
    rw [List.flatten_append, List.flatten_cons] at this
    exact this
  rw [e2]
  unfold ofs
  rw [List.getD_eq_getElem?_getD, List.getElem?_append_right (by omega), Nat.add_sub_cancel_left, List.getElem?_append_left hj, ← List.getD_eq_getElem?_getD]
theorem ofs_le (ls : List (List Int)) (i : Nat) (h : i < ls.length) : ofs ls i + (ls.getD i []).length ≤ ls.flatten.length := by
  rw [← ofs_succ ls i h]
  unfold ofs
  have e : (ls.take (i + 1)).flatten ++ (ls.drop (i + 1)).flatten = ls.flatten := by rw [← List.flatten_append, List.take_append_drop]
  rw [← e, List.length_append]
  omega
/-- Rows of bytes whose slices lie in the cells of a row. -/
def Parts (w : World) (b off : Nat) (ls : List (List Int)) : Prop := ∀ i, i < ls.length → ∃ (a : Option Addr) (n cap : Nat), w.cell? ⟨b, off + i, none⟩ = some (.slice a n cap) ∧ (ls.getD i []).length = n ∧ Arr w a (ls.getD i [])
set_option maxHeartbeats 2000000 in
theorem checksumOf_walk (b off m cap : Nat) (ls : List (List Int)) (w : World) (hm : ls.length = m) (hp : Parts w b off ls) (hz : ∀ z ∈ ls.flatten, 0 ≤ z ∧ z ≤ 255) (hl : ls.flatten.length ≤ 2097152) (hM : m ≤ 1048576) :
    Calls Tryd.prog 80 #[.slice (some ⟨b, off, none⟩) m cap] w fun e w' => e = .returned (.int .i64 (65535 - fold (psum ls.flatten ((ls.flatten.length + 1) / 2)))) ∧ w' = w := by
  have HM := hide hm
  have HP := hide hp
  have HZ := hide hz
  have HL := hide hl
  clear hm hp hz hl
  go_enter Tryd.func80, Tryd.ntmps80
  go_wp2_with fail
  go_loop [3, 4, 11] (fun s h t => ∃ i : Nat, i ≤ m ∧ t = .int .i64 i ∧ s = .int .u64 (qsum ls.flatten (ofs ls i)) ∧ h = .int .i64 (shf (ofs ls i))) (fun _ _ t => m - (intOf t).toNat)
  case atStart => exact ⟨0, by omega, rfl, rfl, rfl⟩
  case round =>
    obtain ⟨i, hi, rfl, rfl, rfl⟩ := hrel
    by_cases hlt : i < m
    · have HI : Hid (i < ls.length) := hide (by rw [HM.out]; exact hlt)
      obtain ⟨a, n, cp, hc, hn, ha⟩ := HP.out i HI.out
      have HN := hide hn
      have HA := hide ha
      have HO := hide (ofs_le ls i HI.out)
      have HS := hide (ofs_succ ls i HI.out)
      rw [hn] at HO HS
      clear hn ha
      generalize ho : ofs ls i = o at *
      have HOO := hide ho
      clear ho
      have hnb : n ≤ 2097152 := by have h1 := HO.out; have h2 := HL.out; omega
      go_wp2_with fail
      go_loop [3, 4, 17] (fun s h t => ∃ j : Nat, j ≤ n ∧ t = .int .i64 j ∧ s = .int .u64 (qsum ls.flatten (o + j)) ∧ h = .int .i64 (shf (o + j))) (fun _ _ t => n - (intOf t).toNat)
      case atStart => exact ⟨0, by omega, rfl, rfl, rfl⟩
      case round =>
        obtain ⟨j, hj, rfl, rfl, rfl⟩ := hrel
        by_cases hlj : j < n
        · obtain ⟨b', off', rfl, hbs, hcj⟩ := HA.out.2 j (by rw [HN.out]; exact hlj)
          have hzj := getD_bd HA.out.1 j
          have HG : Hid (ls.flatten.getD (o + j) 0 = (ls.getD i []).getD j 0) := hide (by rw [← HOO.out]; exact ofs_get ls i j HI.out (by rw [HN.out]; exact hlj))
          have hq := qsum_bd HZ.out (o + j)
          have hoj : o + j ≤ 2097152 := by have h1 := HO.out; have h2 := HL.out; omega
          have hq2 : qsum ls.flatten (o + j) ≤ 137438953472 := by omega
          have hq1 := hq.1
          clear hq
          by_cases he : (o + j) % 2 = 0
          · have HQ := hide (qsum_even ls.flatten (o + j) he)
            rw [HG.out] at HQ
            have s1 : shf (o + j) = 8 := by unfold shf; rw [if_pos he]
            have S2 : Hid (shf (o + (j + 1)) = 0) := hide (by unfold shf; rw [if_neg (by omega)])
            rw [s1]
            clear he s1 HG
            generalize (ls.getD i []).getD j 0 = x at *
            generalize qsum ls.flatten (o + j) = s at *
            go_wp2
            go_round
            case rel => exact ⟨j + 1, by omega, by go_num, by rw [← Nat.add_assoc, HQ.out], by rw [S2.out]⟩
            case measure => simp [intOf]; omega
          · have HQ := hide (qsum_odd ls.flatten (o + j) he)
            rw [HG.out] at HQ
            have s1 : shf (o + j) = 0 := by unfold shf; rw [if_neg he]
            have S2 : Hid (shf (o + (j + 1)) = 8) := hide (by unfold shf; rw [if_pos (by omega)])
            rw [s1]
            clear he s1 HG
            generalize (ls.getD i []).getD j 0 = x at *
            generalize qsum ls.flatten (o + j) = s at *
            go_wp2
            go_round
            case rel => exact ⟨j + 1, by omega, by go_num, by rw [← Nat.add_assoc, HQ.out], by rw [S2.out]⟩
            case measure => simp [intOf]; omega
        · have hjn : j = n := by omega
          subst hjn
          go_wp2_with fail
          go_round
          case rel => exact ⟨i + 1, by omega, by go_num, by rw [HS.out], by rw [HS.out]⟩
          case measure => simp [intOf]; omega
    · have him : i = m := by omega
      have HQ : Hid (qsum ls.flatten (ofs ls i) = psum ls.flatten ((ls.flatten.length + 1) / 2)) := hide (by rw [him, ← HM.out, ofs_all]; exact qsum_all rfl)
      have hq := qsum_bd HZ.out (ofs ls i)
      have hq2 : qsum ls.flatten (ofs ls i) ≤ 137438953472 := by
        have h1 : ofs ls i = ls.flatten.length := by rw [him, ← HM.out, ofs_all]
        have h2 := HL.out
        omega
      have hq1 := hq.1
      clear hq him
      generalize qsum ls.flatten (ofs ls i) = s at *
      go_wp2_with (go_at_call 93; refine (fold_walk _ (by omega) (by omega) _).mono ?_; rintro e w' ⟨rfl, rfl⟩)
      go_ret
      exact ⟨ret_int (by rw [HQ.out]), rfl⟩

set_option maxHeartbeats 2000000 in
theorem checksum_walk (a : Option Addr) (n cap : Nat) (zs : List Int) (w : World) (hn : zs.length = n) (ha : Arr w a zs) (hm : n ≤ 1048576) :
    Calls Tryd.prog 87 #[.slice a n cap] w fun e w' => e = .returned (.int .i64 (65535 - fold (psum zs ((n + 1) / 2)))) ∧ Below w.heap.size w w' ∧ w.heap.size ≤ w'.heap.size := by
  have HB := hide ((Below.refl w.heap.size w).alloc (Nat.le_refl _) (.cells #[.slice a n cap] 22))
  have e1 : [zs].flatten = zs := by simp
  have HC := hide (checksumOf_walk w.heap.size 0 1 1 [zs] (w.alloc (.cells #[.slice a n cap] 22)) rfl (by
    intro i hi
    have h0 : i = 0 := by simpa using hi
    subst h0
    refine ⟨a, n, cap, ?_, hn, ha.below HB.out (Nat.le_refl _)⟩
    exact (cell_of_row _ w.heap.size 0 _ _ (0, 0) (heap_alloc_new w _)).trans rfl) (by rw [e1]; exact ha.1) (by rw [e1, hn]; omega) (by omega))
  rw [e1, hn] at HC
  clear e1 hn ha
  go_enter Tryd.func87, Tryd.ntmps87
  go_wp2_with (go_at_call 80; refine HC.out.mono ?_; rintro e w' ⟨rfl, rfl⟩)
  go_ret
  exact ⟨rfl, HB.out, HB.out.size⟩

theorem put_on1 (g G N p m : Nat) (v : Int) (done : List Int) (w : World) (hc : Cur w g (.slice (some ⟨G, 0, none⟩) N N) p .nilIface) (hr : RowB w G (done ++ List.replicate m 0)) (hg : g < G) (hp : done.length = p) (hN : p + m = N) (hb : N ≤ 1048576) (hk : 1 ≤ m) :
    Calls Tryd.prog 66 #[.pointer (some ⟨g, 0, none⟩), .int .i64 v, .int .i64 1] w fun e w' => e = .returned (.tuple #[]) ∧ Cur w' g (.slice (some ⟨G, 0, none⟩) N N) (p + 1) .nilIface ∧ RowB w' G ((done ++ putL v 1) ++ List.replicate (m - 1) 0) ∧ Only [g, G] w w' :=
  put_onl g G N p m 1 v done w hc hr hg hp hN hb hk (by omega) (by omega)
theorem put_on2 (g G N p m : Nat) (v : Int) (done : List Int) (w : World) (hc : Cur w g (.slice (some ⟨G, 0, none⟩) N N) p .nilIface) (hr : RowB w G (done ++ List.replicate m 0)) (hg : g < G) (hp : done.length = p) (hN : p + m = N) (hb : N ≤ 1048576) (hk : 2 ≤ m) :
    Calls Tryd.prog 66 #[.pointer (some ⟨g, 0, none⟩), .int .i64 v, .int .i64 2] w fun e w' => e = .returned (.tuple #[]) ∧ Cur w' g (.slice (some ⟨G, 0, none⟩) N N) (p + 2) .nilIface ∧ RowB w' G ((done ++ putL v 2) ++ List.replicate (m - 2) 0) ∧ Only [g, G] w w' :=
  put_onl g G N p m 2 v done w hc hr hg hp hN hb hk (by omega) (by omega)
theorem put_on4 (g G N p m : Nat) (v : Int) (done : List Int) (w : World) (hc : Cur w g (.slice (some ⟨G, 0, none⟩) N N) p .nilIface) (hr : RowB w G (done ++ List.replicate m 0)) (hg : g < G) (hp : done.length = p) (hN : p + m = N) (hb : N ≤ 1048576) (hk : 4 ≤ m) :
    Calls Tryd.prog 66 #[.pointer (some ⟨g, 0, none⟩), .int .i64 v, .int .i64 4] w fun e w' => e = .returned (.tuple #[]) ∧ Cur w' g (.slice (some ⟨G, 0, none⟩) N N) (p + 4) .nilIface ∧ RowB w' G ((done ++ putL v 4) ++ List.replicate (m - 4) 0) ∧ Only [g, G] w w' :=
  put_onl g G N p m 4 v done w hc hr hg hp hN hb hk (by omega) (by omega)
theorem pass_on2 (g G N p : Nat) (w : World) (hc : Cur w g (.slice (some ⟨G, 0, none⟩) N N) p .nilIface) (hb : N ≤ 1048576) (hk : p + 2 ≤ N) :
    Calls Tryd.prog 67 #[.pointer (some ⟨g, 0, none⟩), .int .i64 2] w fun e w' => e = .returned (.slice (some ⟨G, p, none⟩) 2 (N - p)) ∧ Cur w' g (.slice (some ⟨G, 0, none⟩) N N) (p + 2) .nilIface ∧ w.grownBy w' (some g) := by
  have h := pass_ok g p N N G 0 2 w hc (by omega) hk (by omega) (Nat.le_refl _)
  rw [Nat.zero_add] at h
  exact h
theorem rep_two (done : List Int) (m : Nat) (h : 2 ≤ m) : done ++ List.replicate m 0 = (done ++ [0, 0]) ++ List.replicate (m - 2) 0 := by
  obtain ⟨k, rfl⟩ : ∃ k, m = k + 2 := ⟨m - 2, by omega⟩
  rw [Nat.add_sub_cancel, List.append_assoc]
  rfl
theorem row_prefix {w : World} {G : Nat} {D : List Int} {m : Nat} (h : RowB w G (D ++ List.replicate m 0)) (hb : ∀ z ∈ D, 0 ≤ z ∧ z ≤ 255) : Arr w (some ⟨G, 0, none⟩) D := by
  have h1 := (h.arr (fun z hz => by
    rcases List.mem_append.1 hz with hz | hz
    · exact hb z hz
    · have := List.eq_of_mem_replicate hz; omega)).take D.length
  rw [List.take_left] at h1
  exact h1
theorem arr_only {w w' : World} {a : Option Addr} {zs : List Int} {S : List Nat} (h : Arr w a zs) (k : Only S w w') (hn : ∀ j, j < zs.length → ∃ b off, a = some ⟨b, off, none⟩ ∧ b ∉ S) : Arr w' a zs :=
  ⟨h.1, fun j hj => by
    obtain ⟨b, off, e, hlt, hcell⟩ := h.2 j hj
    obtain ⟨b', off', e', hb⟩ := hn j hj
    rw [e] at e'
    cases e'
    exact ⟨b, off, e, Nat.lt_of_lt_of_le hlt k.size, by rw [World.cell?_of_block (a := ⟨b, off + j, none⟩) (k.block b hlt hb)]; exact hcell⟩⟩

/-- A head lies in block H. -/
def HdC (w : World) (H : Nat) (f x0 wh x1 fl x5 x6 x7 x8 : Int) (v : Value) : Prop := w.heap[H]? = some (.cells #[.int .i64 f, .int .i64 x0, .int .i64 wh, .int .i64 x1, .int .i64 fl, .int .i64 x5, .int .i64 x6, .int .i64 x7, .int .i64 x8, v] 114)
theorem HdC.lt {w : World} {H : Nat} {f x0 wh x1 fl x5 x6 x7 x8 : Int} {v : Value} (h : HdC w H f x0 wh x1 fl x5 x6 x7 x8 v) : H < w.heap.size := (Array.getElem?_eq_some_iff.1 h).1
theorem HdC.only {w w' : World} {H : Nat} {S : List Nat} {f x0 wh x1 fl x5 x6 x7 x8 : Int} {v : Value} (h : HdC w H f x0 wh x1 fl x5 x6 x7 x8 v) (k : Only S w w') (hn : H ∉ S) : HdC w' H f x0 wh x1 fl x5 x6 x7 x8 v := (k.block H h.lt hn).trans h
theorem HdC.cells {w : World} {H : Nat} {f x0 wh x1 fl x5 x6 x7 x8 : Int} {v : Value} (h : HdC w H f x0 wh x1 fl x5 x6 x7 x8 v) : w.cell? ⟨H, 0, none⟩ = some (.int .i64 f) ∧ w.cell? ⟨H, 1, none⟩ = some (.int .i64 x0) ∧ w.cell? ⟨H, 2, none⟩ = some (.int .i64 wh) ∧ w.cell? ⟨H, 3, none⟩ = some (.int .i64 x1) ∧ w.cell? ⟨H, 4, none⟩ = some (.int .i64 fl) ∧ w.cell? ⟨H, 5, none⟩ = some (.int .i64 x5) ∧ w.cell? ⟨H, 6, none⟩ = some (.int .i64 x6) ∧ w.cell? ⟨H, 7, none⟩ = some (.int .i64 x7) ∧ w.cell? ⟨H, 8, none⟩ = some (.int .i64 x8) ∧ w.cell? ⟨H, 9, none⟩ = some v :=
  ⟨cell_of_row w H 0 _ _ _ h, cell_of_row w H 1 _ _ _ h, cell_of_row w H 2 _ _ _ h, cell_of_row w H 3 _ _ _ h, cell_of_row w H 4 _ _ _ h, cell_of_row w H 5 _ _ _ h, cell_of_row w H 6 _ _ _ h, cell_of_row w H 7 _ _ _ h, cell_of_row w H 8 _ _ _ h, cell_of_row w H 9 _ _ _ h⟩
/-- The bytes of a head, its sum 0. -/
def hdB (f x0 wh x1 fl x5 x6 x7 x8 : Int) (z0 : List Int) : List Int := putL f 1 ++ putL x0 1 ++ putL wh 2 ++ putL x1 2 ++ putL fl 2 ++ putL x5 1 ++ putL x6 1 ++ [0, 0] ++ putL x7 4 ++ putL x8 4 ++ z0
theorem hdB_len (f x0 wh x1 fl x5 x6 x7 x8 : Int) (z0 : List Int) : (hdB f x0 wh x1 fl x5 x6 x7 x8 z0).length = 20 + z0.length := by unfold hdB; simp [putL_len]; omega
theorem hdB_bd (f x0 wh x1 fl x5 x6 x7 x8 : Int) (z0 : List Int) (h : ∀ z ∈ z0, 0 ≤ z ∧ z ≤ 255) : ∀ z ∈ hdB f x0 wh x1 fl x5 x6 x7 x8 z0, 0 ≤ z ∧ z ≤ 255 := by
  intro z hz
  unfold hdB at hz
  simp only [List.mem_append] at hz
  rcases hz with (((((((((hz | hz) | hz) | hz) | hz) | hz) | hz) | hz) | hz) | hz) | hz
  any_goals exact putL_bd _ _ z hz
  · simp only [List.mem_cons, List.not_mem_nil, or_false] at hz; omega
  · exact h z hz
set_option maxHeartbeats 8000000 in
theorem putHead_ok (g G H N n0 c0 : Nat) (a0 : Option Addr) (f x0 wh x1 fl x5 x6 x7 x8 : Int) (z0 : List Int) (w : World) (hc : Cur w g (.slice (some ⟨G, 0, none⟩) N N) 0 .nilIface) (hr : RowB w G (List.replicate N 0)) (hh : HdC w H f x0 wh x1 fl x5 x6 x7 x8 (.slice a0 n0 c0)) (hg : g < G) (hHg : H ≠ g) (hHG : H ≠ G) (hN : 20 + n0 ≤ N) (hb : N ≤ 1048576) (hz : z0.length = n0) (ha : Arr w a0 z0) (hag : ∀ j, j < z0.length → ∃ b off, a0 = some ⟨b, off, none⟩ ∧ b < g) :
    Calls Tryd.prog 62 #[.pointer (some ⟨H, 0, none⟩), .pointer (some ⟨g, 0, none⟩)] w fun e w' => e = .returned (.tuple #[]) ∧ Cur w' g (.slice (some ⟨G, 0, none⟩) N N) (20 + n0) .nilIface ∧ RowB w' G (splice (hdB f x0 wh x1 fl x5 x6 x7 x8 z0 ++ List.replicate (N - 20 - n0) 0) 10 (putL (csum (hdB f x0 wh x1 fl x5 x6 x7 x8 z0)) 2)) ∧ Only [g, G] w w' := by
  have HH0 := hide hh
  have HC0 := hide hc
  have HR0 : Hid (RowB w G ([] ++ List.replicate N 0)) := hide hr
  have HO0 := hide (Only.refl [g, G] w)
  have HNE : Hid (H ∉ [g, G]) := hide (by simp [hHg, hHG])
  have HZ := hide hz
  have HA := hide ha
  have HAG := hide hag
  clear hh hc hr hHg hHG hz ha hag
  go_enter Tryd.func62, Tryd.ntmps62
  have C := hide (put_on1 g G N 0 (N) f ([]) w HC0.out HR0.out hg rfl (by omega) hb (by omega))
  obtain ⟨h0, h1, h2, h3, h4, h5, h6, h7, h8, h9⟩ := HH0.out.cells
  go_wp2_with fail
  refine C.out.mono ?_
  rintro e w1 ⟨rfl, hc, hr, ho⟩
  have HC1 : Hid (Cur w1 g (.slice (some ⟨G, 0, none⟩) N N) 1 .nilIface) := hide hc
  have HR1 := hide hr
  have HH1 := hide (HH0.out.only ho HNE.out)
  have HO1 := hide (HO0.out.trans ho)
  clear C hc hr ho h0 h1 h2 h3 h4 h5 h6 h7 h8 h9 HC0 HR0 HH0 HO0
  have C := hide (put_on1 g G N 1 (N - 1) x0 ([] ++ putL f 1) w1 HC1.out HR1.out hg (by simp [putL_len]) (by omega) hb (by omega))
  obtain ⟨h0, h1, h2, h3, h4, h5, h6, h7, h8, h9⟩ := HH1.out.cells
  go_wp2_with fail
  refine C.out.mono ?_
  rintro e w2 ⟨rfl, hc, hr, ho⟩
  have HC2 : Hid (Cur w2 g (.slice (some ⟨G, 0, none⟩) N N) 2 .nilIface) := hide hc
  have HR2 := hide hr
  have HH2 := hide (HH1.out.only ho HNE.out)
  have HO2 := hide (HO1.out.trans ho)
  clear C hc hr ho h0 h1 h2 h3 h4 h5 h6 h7 h8 h9 HC1 HR1 HH1 HO1
  have C := hide (put_on2 g G N 2 (N - 1 - 1) wh ([] ++ putL f 1 ++ putL x0 1) w2 HC2.out HR2.out hg (by simp [putL_len]) (by omega) hb (by omega))
  obtain ⟨h0, h1, h2, h3, h4, h5, h6, h7, h8, h9⟩ := HH2.out.cells
  go_wp2_with fail
  refine C.out.mono ?_
  rintro e w3 ⟨rfl, hc, hr, ho⟩
  have HC3 : Hid (Cur w3 g (.slice (some ⟨G, 0, none⟩) N N) 4 .nilIface) := hide hc
  have HR3 := hide hr
  have HH3 := hide (HH2.out.only ho HNE.out)
  have HO3 := hide (HO2.out.trans ho)
  clear C hc hr ho h0 h1 h2 h3 h4 h5 h6 h7 h8 h9 HC2 HR2 HH2 HO2
  have C := hide (put_on2 g G N 4 (N - 1 - 1 - 2) x1 ([] ++ putL f 1 ++ putL x0 1 ++ putL wh 2) w3 HC3.out HR3.out hg (by simp [putL_len]) (by omega) hb (by omega))
  obtain ⟨h0, h1, h2, h3, h4, h5, h6, h7, h8, h9⟩ := HH3.out.cells
  go_wp2_with fail
  refine C.out.mono ?_
  rintro e w4 ⟨rfl, hc, hr, ho⟩
  have HC4 : Hid (Cur w4 g (.slice (some ⟨G, 0, none⟩) N N) 6 .nilIface) := hide hc
  have HR4 := hide hr
  have HH4 := hide (HH3.out.only ho HNE.out)
  have HO4 := hide (HO3.out.trans ho)
  clear C hc hr ho h0 h1 h2 h3 h4 h5 h6 h7 h8 h9 HC3 HR3 HH3 HO3
  have C := hide (put_on2 g G N 6 (N - 1 - 1 - 2 - 2) fl ([] ++ putL f 1 ++ putL x0 1 ++ putL wh 2 ++ putL x1 2) w4 HC4.out HR4.out hg (by simp [putL_len]) (by omega) hb (by omega))
  obtain ⟨h0, h1, h2, h3, h4, h5, h6, h7, h8, h9⟩ := HH4.out.cells
  go_wp2_with fail
  refine C.out.mono ?_
  rintro e w5 ⟨rfl, hc, hr, ho⟩
  have HC5 : Hid (Cur w5 g (.slice (some ⟨G, 0, none⟩) N N) 8 .nilIface) := hide hc
  have HR5 := hide hr
  have HH5 := hide (HH4.out.only ho HNE.out)
  have HO5 := hide (HO4.out.trans ho)
  clear C hc hr ho h0 h1 h2 h3 h4 h5 h6 h7 h8 h9 HC4 HR4 HH4 HO4
  have C := hide (put_on1 g G N 8 (N - 1 - 1 - 2 - 2 - 2) x5 ([] ++ putL f 1 ++ putL x0 1 ++ putL wh 2 ++ putL x1 2 ++ putL fl 2) w5 HC5.out HR5.out hg (by simp [putL_len]) (by omega) hb (by omega))
  obtain ⟨h0, h1, h2, h3, h4, h5, h6, h7, h8, h9⟩ := HH5.out.cells
  go_wp2_with fail
  refine C.out.mono ?_
  rintro e w6 ⟨rfl, hc, hr, ho⟩
  have HC6 : Hid (Cur w6 g (.slice (some ⟨G, 0, none⟩) N N) 9 .nilIface) := hide hc
  have HR6 := hide hr
  have HH6 := hide (HH5.out.only ho HNE.out)
  have HO6 := hide (HO5.out.trans ho)
  clear C hc hr ho h0 h1 h2 h3 h4 h5 h6 h7 h8 h9 HC5 HR5 HH5 HO5
  have C := hide (put_on1 g G N 9 (N - 1 - 1 - 2 - 2 - 2 - 1) x6 ([] ++ putL f 1 ++ putL x0 1 ++ putL wh 2 ++ putL x1 2 ++ putL fl 2 ++ putL x5 1) w6 HC6.out HR6.out hg (by simp [putL_len]) (by omega) hb (by omega))
  obtain ⟨h0, h1, h2, h3, h4, h5, h6, h7, h8, h9⟩ := HH6.out.cells
  go_wp2_with fail
  refine C.out.mono ?_
  rintro e w7 ⟨rfl, hc, hr, ho⟩
  have HC7 : Hid (Cur w7 g (.slice (some ⟨G, 0, none⟩) N N) 10 .nilIface) := hide hc
  have HR7 := hide hr
  have HH7 := hide (HH6.out.only ho HNE.out)
  have HO7 := hide (HO6.out.trans ho)
  clear C hc hr ho h0 h1 h2 h3 h4 h5 h6 h7 h8 h9 HC6 HR6 HH6 HO6
  have C := hide (pass_on2 g G N 10 w7 HC7.out hb (by omega))
  go_wp2_with fail
  refine C.out.mono ?_
  rintro e w8 ⟨rfl, hc, ho⟩
  have HC8 : Hid (Cur w8 g (.slice (some ⟨G, 0, none⟩) N N) 12 .nilIface) := hide hc
  have hr := HR7.out.kept ho (by intro e; cases e; omega)
  rw [rep_two _ _ (by omega)] at hr
  have HR8 := hide hr
  have ho2 : Only [g, G] w7 w8 := (Only.of_some ho).mono (by simp)
  have HH8 := hide (HH7.out.only ho2 HNE.out)
  have HO8 := hide (HO7.out.trans ho2)
  clear C hc hr ho ho2 HC7 HR7 HH7 HO7
  have C := hide (put_on4 g G N 12 (N - 1 - 1 - 2 - 2 - 2 - 1 - 1 - 2) x7 ([] ++ putL f 1 ++ putL x0 1 ++ putL wh 2 ++ putL x1 2 ++ putL fl 2 ++ putL x5 1 ++ putL x6 1 ++ [0, 0]) w8 HC8.out HR8.out hg (by simp [putL_len]) (by omega) hb (by omega))
  obtain ⟨h0, h1, h2, h3, h4, h5, h6, h7, h8, h9⟩ := HH8.out.cells
  go_wp2_with fail
  refine C.out.mono ?_
  rintro e w9 ⟨rfl, hc, hr, ho⟩
  have HC9 : Hid (Cur w9 g (.slice (some ⟨G, 0, none⟩) N N) 16 .nilIface) := hide hc
  have HR9 := hide hr
  have HH9 := hide (HH8.out.only ho HNE.out)
  have HO9 := hide (HO8.out.trans ho)
  clear C hc hr ho h0 h1 h2 h3 h4 h5 h6 h7 h8 h9 HC8 HR8 HH8 HO8
  have C := hide (put_on4 g G N 16 (N - 1 - 1 - 2 - 2 - 2 - 1 - 1 - 2 - 4) x8 ([] ++ putL f 1 ++ putL x0 1 ++ putL wh 2 ++ putL x1 2 ++ putL fl 2 ++ putL x5 1 ++ putL x6 1 ++ [0, 0] ++ putL x7 4) w9 HC9.out HR9.out hg (by simp [putL_len]) (by omega) hb (by omega))
  obtain ⟨h0, h1, h2, h3, h4, h5, h6, h7, h8, h9⟩ := HH9.out.cells
  go_wp2_with fail
  refine C.out.mono ?_
  rintro e w10 ⟨rfl, hc, hr, ho⟩
  have HC10 : Hid (Cur w10 g (.slice (some ⟨G, 0, none⟩) N N) 20 .nilIface) := hide hc
  have HR10 := hide hr
  have HH10 := hide (HH9.out.only ho HNE.out)
  have HO10 := hide (HO9.out.trans ho)
  clear C hc hr ho h0 h1 h2 h3 h4 h5 h6 h7 h8 h9 HC9 HR9 HH9 HO9
  have HAN : Hid (∀ j, j < z0.length → ∃ b off, a0 = some ⟨b, off, none⟩ ∧ b ∉ [g, G]) := hide (fun j hj => by obtain ⟨b, off, e, hlt⟩ := HAG.out j hj; exact ⟨b, off, e, by simp; omega⟩)
  have C := hide (putBytes_onl g G N 20 (N - 1 - 1 - 2 - 2 - 2 - 1 - 1 - 2 - 4 - 4) n0 c0 a0 ([] ++ putL f 1 ++ putL x0 1 ++ putL wh 2 ++ putL x1 2 ++ putL fl 2 ++ putL x5 1 ++ putL x6 1 ++ [0, 0] ++ putL x7 4 ++ putL x8 4) z0 w10 HC10.out HR10.out hg (by simp [putL_len]) (by omega) hb (by omega) HZ.out (arr_only HA.out HO10.out HAN.out) HAG.out)
  obtain ⟨h0, h1, h2, h3, h4, h5, h6, h7, h8, h9⟩ := HH10.out.cells
  go_wp2_with fail
  refine C.out.mono ?_
  rintro e w11 ⟨rfl, hc, hr, ho⟩
  have HC := hide hc
  have HR : Hid (RowB w11 G (hdB f x0 wh x1 fl x5 x6 x7 x8 z0 ++ List.replicate (N - 20 - n0) 0)) := hide (by
    have e : N - 1 - 1 - 2 - 2 - 2 - 1 - 1 - 2 - 4 - 4 - n0 = N - 20 - n0 := by omega
    rw [e] at hr
    exact hr)
  have HO := hide (HO10.out.trans ho)
  clear C hc hr ho h0 h1 h2 h3 h4 h5 h6 h7 h8 h9 HC10 HR10 HH10 HO10
  have HBD := hide (hdB_bd f x0 wh x1 fl x5 x6 x7 x8 z0 HA.out.1)
  have HL : Hid ((hdB f x0 wh x1 fl x5 x6 x7 x8 z0).length = 20 + n0) := hide (by rw [hdB_len, HZ.out])
  generalize hD : hdB f x0 wh x1 fl x5 x6 x7 x8 z0 = D at *
  have HD := hide hD
  clear hD
  have CP := hide (passed_walk g (20 + n0) N N G 0 .nilIface w11 HC.out hN (by omega))
  go_wp2_with fail
  refine CP.out.mono ?_
  rintro e wa ⟨rfl, m, rfl⟩
  have hk := checksum_walk (some ⟨G, 0, none⟩) (20 + n0) N D (w11.drewN m) HL.out (row_prefix HR.out HBD.out) (by omega)
  have CK : Hid (Calls Tryd.prog 87 #[.slice (some ⟨G, 0, none⟩) (20 + n0) N] (w11.drewN m) fun e w' => e = .returned (.int .i64 (csum D)) ∧ Below (w11.drewN m).heap.size (w11.drewN m) w') := hide (hk.mono (by rintro e w' ⟨rfl, hb, _⟩; refine ⟨?_, hb⟩; unfold csum; rw [HL.out]))
  clear hk CP
  go_wp2_with fail
  refine CK.out.mono ?_
  rintro e wb ⟨rfl, hbk⟩
  have hb2 : Below w11.heap.size w11 wb := ⟨hbk.os, hbk.tape, hbk.output, hbk.size, hbk.block⟩
  have HC2 := hide (HC.out.below hb2 HC.out.lt)
  have HR2 := hide (HR.out.below hb2 HR.out.lt)
  have HO2 := hide (HO.out.trans (Only.of_below hb2))
  clear CK hbk hb2 HC HR HO
  have CN := hide (putNumber_at G 10 2 (N - 10) (csum D) _ wb (by omega) HR2.out (by rw [List.length_append, HL.out]; omega))
  go_wp2_with fail
  refine CN.out.mono ?_
  rintro e wc ⟨rfl, hr, hgc⟩
  have HC3 := hide (HC2.out.kept hgc (by intro e; cases e; omega))
  have HR3 := hide hr
  have HO3 := hide (HO2.out.trans ((Only.of_some hgc).mono (by simp)))
  clear CN hr hgc HC2 HR2 HO2
  go_wp2_with fail
  go_end0
  exact ⟨rfl, HC3.out, by rw [HD.out]; exact HR3.out, HO3.out⟩
set_option maxHeartbeats 8000000 in
theorem putHead_err (g H n0 c0 : Nat) (a0 : Option Addr) (c f x0 wh x1 fl x5 x6 x7 x8 : Int) (w : World) (hc : Cur w g (.slice none 0 0) 0 (wErr c)) (hh : HdC w H f x0 wh x1 fl x5 x6 x7 x8 (.slice a0 n0 c0)) (hm : n0 ≤ 1048576) :
    Calls Tryd.prog 62 #[.pointer (some ⟨H, 0, none⟩), .pointer (some ⟨g, 0, none⟩)] w fun e w' => e = .returned (.tuple #[]) ∧ Below w.heap.size w w' := by
  have HH := hide hh
  have HC := hide hc
  clear hh hc
  go_enter Tryd.func62, Tryd.ntmps62
  obtain ⟨h0, h1, h2, h3, h4, h5, h6, h7, h8, h9⟩ := (show HdC (w) _ _ _ _ _ _ _ _ _ _ _ from HH.out).cells
  go_wp2_with fail
  refine (put_err g 0 0 0 none c _ 1 _ (show Cur (w) _ _ _ _ from HC.out) (by omega) (by omega) (by omega) (by omega)).mono ?_
  rintro e v0 ⟨rfl, m0, rfl⟩
  clear h0 h1 h2 h3 h4 h5 h6 h7 h8 h9
  obtain ⟨h0, h1, h2, h3, h4, h5, h6, h7, h8, h9⟩ := (show HdC (w.drewN m0) _ _ _ _ _ _ _ _ _ _ _ from HH.out).cells
  go_wp2_with fail
  refine (put_err g 0 0 0 none c _ 1 _ (show Cur (w.drewN m0) _ _ _ _ from HC.out) (by omega) (by omega) (by omega) (by omega)).mono ?_
  rintro e v1 ⟨rfl, m1, rfl⟩
  clear h0 h1 h2 h3 h4 h5 h6 h7 h8 h9
  obtain ⟨h0, h1, h2, h3, h4, h5, h6, h7, h8, h9⟩ := (show HdC (w.drewN (m0 + m1)) _ _ _ _ _ _ _ _ _ _ _ from HH.out).cells
  go_wp2_with fail
  refine (put_err g 0 0 0 none c _ 2 _ (show Cur (w.drewN (m0 + m1)) _ _ _ _ from HC.out) (by omega) (by omega) (by omega) (by omega)).mono ?_
  rintro e v2 ⟨rfl, m2, rfl⟩
  clear h0 h1 h2 h3 h4 h5 h6 h7 h8 h9
  obtain ⟨h0, h1, h2, h3, h4, h5, h6, h7, h8, h9⟩ := (show HdC (w.drewN (m0 + m1 + m2)) _ _ _ _ _ _ _ _ _ _ _ from HH.out).cells
  go_wp2_with fail
  refine (put_err g 0 0 0 none c _ 2 _ (show Cur (w.drewN (m0 + m1 + m2)) _ _ _ _ from HC.out) (by omega) (by omega) (by omega) (by omega)).mono ?_
  rintro e v3 ⟨rfl, m3, rfl⟩
  clear h0 h1 h2 h3 h4 h5 h6 h7 h8 h9
  obtain ⟨h0, h1, h2, h3, h4, h5, h6, h7, h8, h9⟩ := (show HdC (w.drewN (m0 + m1 + m2 + m3)) _ _ _ _ _ _ _ _ _ _ _ from HH.out).cells
  go_wp2_with fail
  refine (put_err g 0 0 0 none c _ 2 _ (show Cur (w.drewN (m0 + m1 + m2 + m3)) _ _ _ _ from HC.out) (by omega) (by omega) (by omega) (by omega)).mono ?_
  rintro e v4 ⟨rfl, m4, rfl⟩
  clear h0 h1 h2 h3 h4 h5 h6 h7 h8 h9
  obtain ⟨h0, h1, h2, h3, h4, h5, h6, h7, h8, h9⟩ := (show HdC (w.drewN (m0 + m1 + m2 + m3 + m4)) _ _ _ _ _ _ _ _ _ _ _ from HH.out).cells
  go_wp2_with fail
  refine (put_err g 0 0 0 none c _ 1 _ (show Cur (w.drewN (m0 + m1 + m2 + m3 + m4)) _ _ _ _ from HC.out) (by omega) (by omega) (by omega) (by omega)).mono ?_
  rintro e v5 ⟨rfl, m5, rfl⟩
  clear h0 h1 h2 h3 h4 h5 h6 h7 h8 h9
  obtain ⟨h0, h1, h2, h3, h4, h5, h6, h7, h8, h9⟩ := (show HdC (w.drewN (m0 + m1 + m2 + m3 + m4 + m5)) _ _ _ _ _ _ _ _ _ _ _ from HH.out).cells
  go_wp2_with fail
  refine (put_err g 0 0 0 none c _ 1 _ (show Cur (w.drewN (m0 + m1 + m2 + m3 + m4 + m5)) _ _ _ _ from HC.out) (by omega) (by omega) (by omega) (by omega)).mono ?_
  rintro e v6 ⟨rfl, m6, rfl⟩
  clear h0 h1 h2 h3 h4 h5 h6 h7 h8 h9
  go_wp2_with fail
  refine (pass_err g 0 0 0 none c 2 _ (show Cur (w.drewN (m0 + m1 + m2 + m3 + m4 + m5 + m6)) _ _ _ _ from HC.out) (by omega) (by omega) (by omega) (by omega)).mono ?_
  rintro e v7 ⟨rfl, m7, rfl⟩
  obtain ⟨h0, h1, h2, h3, h4, h5, h6, h7, h8, h9⟩ := (show HdC (w.drewN (m0 + m1 + m2 + m3 + m4 + m5 + m6 + m7)) _ _ _ _ _ _ _ _ _ _ _ from HH.out).cells
  go_wp2_with fail
  refine (put_err g 0 0 0 none c _ 4 _ (show Cur (w.drewN (m0 + m1 + m2 + m3 + m4 + m5 + m6 + m7)) _ _ _ _ from HC.out) (by omega) (by omega) (by omega) (by omega)).mono ?_
  rintro e v8 ⟨rfl, m8, rfl⟩
  clear h0 h1 h2 h3 h4 h5 h6 h7 h8 h9
  obtain ⟨h0, h1, h2, h3, h4, h5, h6, h7, h8, h9⟩ := (show HdC (w.drewN (m0 + m1 + m2 + m3 + m4 + m5 + m6 + m7 + m8)) _ _ _ _ _ _ _ _ _ _ _ from HH.out).cells
  go_wp2_with fail
  refine (put_err g 0 0 0 none c _ 4 _ (show Cur (w.drewN (m0 + m1 + m2 + m3 + m4 + m5 + m6 + m7 + m8)) _ _ _ _ from HC.out) (by omega) (by omega) (by omega) (by omega)).mono ?_
  rintro e v9 ⟨rfl, m9, rfl⟩
  clear h0 h1 h2 h3 h4 h5 h6 h7 h8 h9
  obtain ⟨h0, h1, h2, h3, h4, h5, h6, h7, h8, h9⟩ := (show HdC (w.drewN (m0 + m1 + m2 + m3 + m4 + m5 + m6 + m7 + m8 + m9)) _ _ _ _ _ _ _ _ _ _ _ from HH.out).cells
  go_wp2_with fail
  refine (putBytes_err g 0 0 0 n0 c0 none a0 c _ (show Cur (w.drewN (m0 + m1 + m2 + m3 + m4 + m5 + m6 + m7 + m8 + m9)) _ _ _ _ from HC.out) (by omega) (by omega) (by omega)).mono ?_
  rintro e v ⟨rfl, mb, rfl⟩
  clear h0 h1 h2 h3 h4 h5 h6 h7 h8 h9
  go_wp2_with fail
  refine (passed_none g (wErr c) _ (show Cur (w.drewN (m0 + m1 + m2 + m3 + m4 + m5 + m6 + m7 + m8 + m9 + mb)) _ _ _ _ from HC.out)).mono ?_
  rintro e v ⟨rfl, mp, rfl⟩
  have CK := hide (fun W => checksum_walk none 0 0 [] W rfl ⟨by simp, fun j hj => by simp at hj⟩ (by omega))
  go_wp2_with fail
  refine (CK.out _).mono ?_
  rintro e wb ⟨rfl, hbk, _⟩
  have HB : Hid (Below w.heap.size w wb) := hide ⟨hbk.os, hbk.tape, hbk.output, hbk.size, hbk.block⟩
  clear hbk CK
  go_wp2_with fail
  refine (putNumber_none _ _).mono ?_
  rintro e v ⟨rfl, rfl⟩
  go_wp2_with fail
  go_end0
  exact ⟨rfl, HB.out⟩
end Go.Proofs.YtakoagfeiolkjabDoor
