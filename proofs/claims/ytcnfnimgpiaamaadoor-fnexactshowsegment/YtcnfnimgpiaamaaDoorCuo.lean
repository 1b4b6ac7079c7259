/-
Contracts of functions of this seat.
-/
import Derived.Test.YtcnfnimgpiaamaaDoorRows
import Derived.WalkKit
import Derived.ProofKit
import Derived.OpenShut
import Derived.Test.YtcnfnimgpiaamaaDoorCur
import Derived.Test.YtcnfnimgpiaamaaDoorFst
namespace Go.Proofs.YtcnfnimgpiaamaaDoor
open Go.ChangeShapes Go.WideShapes Go.ChangeAt Go.RowKit
set_option linter.unusedVariables false
set_option maxRecDepth 100000
/-- A slice of nothing, wherever it lies. -/
theorem sl_nothing (b off n cap p : Nat) (hh : p ≤ cap) : ∃ a' : Option Addr, ∀ w : World, (Instr.slice 23 (.slice (some ⟨b, off, none⟩) n cap) (some (.int .i64 (p : Int))) (some (.int .i64 (p : Int))) none).run Tryd.prog w = .ok (.slice a' 0 (cap - p)) w := by
  have hs : ∀ w : World, (sizeOf (Tryd.prog.elem 23)).run Tryd.prog w = .ok 1 w := fun w => Tryd.sizeOf5 w
  have he := fun w : World => run_slice_lh (P := Tryd.prog) (w := w) 23 (some ⟨b, off, none⟩) n cap Tryd.underlying23 .i64 .i64 (p : Int) (p : Int) (by omega) (by omega) (by omega)
  refine ⟨if cap = p then some ⟨b, off, none⟩ else some ((⟨b, off, none⟩ : Addr).add p), fun w => ?_⟩
  rw [he, hs]
  simp [sliced, Result.andThen]
set_option maxHeartbeats 1000000 in
theorem pass_zero (g p n cap b off : Nat) (w : World) (hc : Cur w g (.slice (some ⟨b, off, none⟩) n cap) p .nilIface) (hn : n ≤ 140737488355328) (hp : p ≤ n) (hcap : n ≤ cap) :
    Calls Tryd.prog 45 #[.pointer (some ⟨g, 0, none⟩), .int .i64 0] w fun e w' => ∃ a', e = .returned (.slice a' 0 (cap - p)) ∧ Cur w' g (.slice (some ⟨b, off, none⟩) n cap) p .nilIface ∧ w.grownBy w' (some g) := by
  have CL := hide (left_walk g p n cap (some ⟨b, off, none⟩) .nilIface w hc hn (by omega))
  have HC := hide hc
  obtain ⟨c0, c1, c2, cf⟩ := hc.cells
  have hk1 : (0 : Int) ≤ (n : Int) - (p : Int) := by omega
  obtain ⟨a', sl⟩ := sl_nothing b off n cap p (by omega)
  clear hc
  go_enter Tryd.func45, Tryd.ntmps45
  go_wp2_with fail
  refine CL.out.mono ?_
  rintro e w1 ⟨rfl, m, rfl⟩
  go_wp2_with fail
  refine (demand_yes g p _ _ _ (HC.out.drewN m)).mono ?_
  rintro e w2 ⟨rfl, rfl⟩
  go_wp2_with fail
  have HS := hide ((HC.out.drewN m).place p)
  have HG := hide (grown_cell (w.drewN m) g 1 (.int .i64 (p : Int)))
  generalize (w.drewN m).setCell ⟨g, 1, none⟩ (.int .i64 (p : Int)) = W at *
  obtain ⟨d0, d1, d2, df⟩ := HS.out.cells
  clear c0 c1 c2 cf HC CL
  go_quiet (fail)
  go_wp2
  go_ret
  exact ⟨a', rfl, HS.out.drewN nq, ⟨HG.out.os, HG.out.tape, HG.out.output, HG.out.size, HG.out.block⟩⟩
theorem only_two {w w1 w2 : World} {g G : Nat} (h : w.grownBy w1 (some g)) (k : w1.grownBy w2 (some G)) : Only [g, G] w w2 :=
  ((Only.of_some h).mono (by simp)).trans ((Only.of_some k).mono (by simp))
set_option maxHeartbeats 1000000 in
theorem put_only (g p G N k : Nat) (v : Int) (xs : List Int) (w : World) (hc : Cur w g (.slice (some ⟨G, 0, none⟩) N N) p .nilIface) (hr : RowB w G xs) (hg : g < G) (hx : xs.length = N) (hN : N ≤ 1048576) (hk : p + k ≤ N) (hp : p < N) (h8 : k ≤ 8) :
    Calls Tryd.prog 112 #[.pointer (some ⟨g, 0, none⟩), .int .i64 v, .int .i64 (k : Int)] w fun e w' => e = .returned (.tuple #[]) ∧ Cur w' g (.slice (some ⟨G, 0, none⟩) N N) (p + k) .nilIface ∧ RowB w' G (splice xs p (putL v k)) ∧ Only [g, G] w w' := by
  have cp := pass_ok g p N N G 0 k w hc (by omega) hk hp (Nat.le_refl _)
  rw [Nat.zero_add] at cp
  have CP := hide cp
  clear cp
  have hgl := hc.lt
  have HR := hide hr
  have HX := hide hx
  clear hc hr hx
  go_enter Tryd.func112, Tryd.ntmps112
  go_wp2_with fail
  refine CP.out.mono ?_
  rintro e w1 ⟨rfl, hc1, hg1⟩
  have HC1 := hide hc1
  have hr1 := HR.out.kept hg1 (by intro e; cases e; omega)
  have CN := hide (putNumber_at G p k (N - p) v xs w1 h8 hr1 (by rw [HX.out]; omega))
  have HB1 := hide hg1
  clear hc1 hg1 hr1
  go_wp2_with fail
  refine CN.out.mono ?_
  rintro e w2 ⟨rfl, hr2, hg2⟩
  have HC2 := hide (HC1.out.kept hg2 (by intro e; cases e; omega))
  have HB2 := hide (only_two HB1.out hg2)
  have HR2 := hide hr2
  clear hr2 hg2
  go_wp2_with fail
  go_end0
  exact ⟨rfl, HC2.out, HR2.out, HB2.out⟩
theorem put_onl (g G N p m k : Nat) (v : Int) (done : List Int) (w : World) (hc : Cur w g (.slice (some ⟨G, 0, none⟩) N N) p .nilIface) (hr : RowB w G (done ++ List.replicate m 0)) (hg : g < G) (hp : done.length = p) (hN : p + m = N) (hb : N ≤ 1048576) (hk : k ≤ m) (hm : 0 < m) (h8 : k ≤ 8) :
    Calls Tryd.prog 112 #[.pointer (some ⟨g, 0, none⟩), .int .i64 v, .int .i64 (k : Int)] w fun e w' => e = .returned (.tuple #[]) ∧ Cur w' g (.slice (some ⟨G, 0, none⟩) N N) (p + k) .nilIface ∧ RowB w' G ((done ++ putL v k) ++ List.replicate (m - k) 0) ∧ Only [g, G] w w' := by
  have h := put_only g p G N k v _ w hc hr hg (by rw [List.length_append, List.length_replicate, hp, hN]) hb (by omega) (by omega) h8
  rw [splice_fill done _ p m hp, putL_len] at h
  exact h
theorem put_on1 (g G N p m : Nat) (v : Int) (done : List Int) (w : World) (hc : Cur w g (.slice (some ⟨G, 0, none⟩) N N) p .nilIface) (hr : RowB w G (done ++ List.replicate m 0)) (hg : g < G) (hp : done.length = p) (hN : p + m = N) (hb : N ≤ 1048576) (hk : 1 ≤ m) :
    Calls Tryd.prog 112 #[.pointer (some ⟨g, 0, none⟩), .int .i64 v, .int .i64 1] w fun e w' => e = .returned (.tuple #[]) ∧ Cur w' g (.slice (some ⟨G, 0, none⟩) N N) (p + 1) .nilIface ∧ RowB w' G ((done ++ putL v 1) ++ List.replicate (m - 1) 0) ∧ Only [g, G] w w' :=
  put_onl g G N p m 1 v done w hc hr hg hp hN hb hk (by omega) (by omega)
theorem put_on2 (g G N p m : Nat) (v : Int) (done : List Int) (w : World) (hc : Cur w g (.slice (some ⟨G, 0, none⟩) N N) p .nilIface) (hr : RowB w G (done ++ List.replicate m 0)) (hg : g < G) (hp : done.length = p) (hN : p + m = N) (hb : N ≤ 1048576) (hk : 2 ≤ m) :
    Calls Tryd.prog 112 #[.pointer (some ⟨g, 0, none⟩), .int .i64 v, .int .i64 2] w fun e w' => e = .returned (.tuple #[]) ∧ Cur w' g (.slice (some ⟨G, 0, none⟩) N N) (p + 2) .nilIface ∧ RowB w' G ((done ++ putL v 2) ++ List.replicate (m - 2) 0) ∧ Only [g, G] w w' :=
  put_onl g G N p m 2 v done w hc hr hg hp hN hb hk (by omega) (by omega)
theorem put_on4 (g G N p m : Nat) (v : Int) (done : List Int) (w : World) (hc : Cur w g (.slice (some ⟨G, 0, none⟩) N N) p .nilIface) (hr : RowB w G (done ++ List.replicate m 0)) (hg : g < G) (hp : done.length = p) (hN : p + m = N) (hb : N ≤ 1048576) (hk : 4 ≤ m) :
    Calls Tryd.prog 112 #[.pointer (some ⟨g, 0, none⟩), .int .i64 v, .int .i64 4] w fun e w' => e = .returned (.tuple #[]) ∧ Cur w' g (.slice (some ⟨G, 0, none⟩) N N) (p + 4) .nilIface ∧ RowB w' G ((done ++ putL v 4) ++ List.replicate (m - 4) 0) ∧ Only [g, G] w w' :=
  put_onl g G N p m 4 v done w hc hr hg hp hN hb hk (by omega) (by omega)
theorem pass_on2 (g G N p : Nat) (w : World) (hc : Cur w g (.slice (some ⟨G, 0, none⟩) N N) p .nilIface) (hb : N ≤ 1048576) (hk : p + 2 ≤ N) :
    Calls Tryd.prog 45 #[.pointer (some ⟨g, 0, none⟩), .int .i64 2] w fun e w' => e = .returned (.slice (some ⟨G, p, none⟩) 2 (N - p)) ∧ Cur w' g (.slice (some ⟨G, 0, none⟩) N N) (p + 2) .nilIface ∧ w.grownBy w' (some g) := by
  have h := pass_ok g p N N G 0 2 w hc (by omega) hk (by omega) (Nat.le_refl _)
  rw [Nat.zero_add] at h
  exact h
theorem rep_two (done : List Int) (m : Nat) (h : 2 ≤ m) : done ++ List.replicate m 0 = (done ++ [0, 0]) ++ List.replicate (m - 2) 0 := by
  obtain ⟨k, rfl⟩ : ∃ k, m = k + 2 := ⟨m - 2, by omega⟩
  rw [Nat.add_sub_cancel, List.append_assoc]
  rfl
theorem row_prefix {w : World} {G : Nat} {D : List Int} {m : Nat} (h : RowB w G (D ++ List.replicate m 0)) (hb : ∀ z ∈ D, 0 ≤ z ∧ z ≤ 255) : Arr w (some ⟨G, 0, none⟩) D := by
  have h1 := (h.arr (fun z hz => by
    rcases List.mem_append.1 hz with hz | hz
    · exact hb z hz
    · have := List.eq_of_mem_replicate hz; omega)).take D.length
  rw [List.take_left] at h1
  exact h1
theorem arr_only {w w' : World} {a : Option Addr} {zs : List Int} {S : List Nat} (h : Arr w a zs) (k : Only S w w') (hn : ∀ j, j < zs.length → ∃ b off, a = some ⟨b, off, none⟩ ∧ b ∉ S) : Arr w' a zs :=
  ⟨h.1, fun j hj => by
    obtain ⟨b, off, e, hlt, hcell⟩ := h.2 j hj
    obtain ⟨b', off', e', hb⟩ := hn j hj
    rw [e] at e'
    cases e'
    exact ⟨b, off, e, Nat.lt_of_lt_of_le hlt k.size, by rw [World.cell?_of_block (a := ⟨b, off + j, none⟩) (k.block b hlt hb)]; exact hcell⟩⟩
end Go.Proofs.YtcnfnimgpiaamaaDoor
