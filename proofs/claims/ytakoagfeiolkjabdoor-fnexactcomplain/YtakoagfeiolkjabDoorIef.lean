/-
Contracts of functions of this seat.
-/
import Derived.Test.YtakoagfeiolkjabDoorRows
import Derived.WalkKit
import Derived.ProofKit
import Derived.OpenShut
import Derived.Test.YtakoagfeiolkjabDoorIei
import Derived.Test.YtakoagfeiolkjabDoorIck
namespace Go.Proofs.YtakoagfeiolkjabDoor
open Go.ChangeShapes Go.WideShapes Go.ChangeAt Go.RowKit
set_option linter.unusedVariables false
set_option maxRecDepth 100000
theorem implEncI_ok' (t c r : Int) (a : Option Addr) (n cap : Nat) (z : List Int) (w : World) (h : icOK t c r = true) (hn : n ≤ 65000) (hz : z.length = n) (ha : Arr w a z) (L : List Int) (hL : splice (icP t c r z) 2 (putL (csum (icP t c r z)) 2) = L) :
    Calls Tryd.prog 11 #[.agg #[.int .i64 t, .int .i64 c, .int .i64 r, .slice a n cap]] w fun e w' => ∃ v : Value, e = .returned (.tuple #[v, .int .i64 0]) ∧ OwnB w' w.heap.size v L ∧ Below w.heap.size w w' := by
  by_cases h8 : t = 8
  · subst h8
    exact implEncI_ok 8 c r a n cap z w h hn hz ha 101 123 124 (.agg #[.int .i64 c, .int .i64 r, .slice a n cap]) (.agg #[.int .i64 c, .int .i64 r, .slice a n cap]) (.agg #[.int .i64 c, .int .i64 r, .slice a n cap]) rfl (mt_size_echo c r a n cap) (mt_put_echo c r a n cap) ent_size ent_echo (fun W => saidSize_walk c r a n cap W (by omega)) (put_echo_ok c r a n cap z (by omega) hz) L hL
  by_cases h0 : t = 0
  · subst h0
    exact implEncI_ok 0 c r a n cap z w h hn hz ha 102 123 126 (.agg #[.int .i64 c, .int .i64 r, .slice a n cap]) (.agg #[.int .i64 c, .int .i64 r, .slice a n cap]) (.agg #[.int .i64 c, .int .i64 r, .slice a n cap]) rfl (mt_size_echoReply c r a n cap) (mt_put_echoReply c r a n cap) ent_size ent_echoReply (fun W => saidSize_walk c r a n cap W (by omega)) (put_echoReply_ok c r a n cap z (by omega) hz) L hL
  by_cases h3 : t = 3
  · subst h3
    exact implEncI_ok 3 c r a n cap z w h hn hz ha 103 123 127 (.agg #[.int .i64 c, .int .i64 r, .slice a n cap]) (.agg #[.int .i64 c, .int .i64 r, .slice a n cap]) (.agg #[.int .i64 c, .int .i64 r, .slice a n cap]) rfl (mt_size_unreachable c r a n cap) (mt_put_unreachable c r a n cap) ent_size ent_unreachable (fun W => saidSize_walk c r a n cap W (by omega)) (put_unreachable_ok c r a n cap z (by omega) hz) L hL
  by_cases h11 : t = 11
  · subst h11
    exact implEncI_ok 11 c r a n cap z w h hn hz ha 104 123 128 (.agg #[.int .i64 c, .int .i64 r, .slice a n cap]) (.agg #[.int .i64 c, .int .i64 r, .slice a n cap]) (.agg #[.int .i64 c, .int .i64 r, .slice a n cap]) rfl (mt_size_exceeded c r a n cap) (mt_put_exceeded c r a n cap) ent_size ent_exceeded (fun W => saidSize_walk c r a n cap W (by omega)) (put_exceeded_ok c r a n cap z (by omega) hz) L hL
  exact implEncI_ok t c r a n cap z w h hn hz ha 106 123 129 (.agg #[.int .i64 t, .int .i64 c, .int .i64 r, .slice a n cap]) (.agg #[.int .i64 c, .int .i64 r, .slice a n cap]) (.agg #[.int .i64 t, .int .i64 c, .int .i64 r, .slice a n cap]) (by unfold msgV; rw [if_neg h8, if_neg h0, if_neg h3, if_neg h11]) (mt_size_foreign t c r a n cap) (mt_put_foreign t c r a n cap) ent_size ent_foreign (fun W => saidSize_walk c r a n cap W (by omega)) (put_foreign_ok t c r a n cap z (by omega) hz) L hL
theorem implEncI_form' (t c r : Int) (a : Option Addr) (n cap : Nat) (w : World) (h : icOK t c r = false) (hm : n ≤ 1048576) (he : ErrT w) :
    Calls Tryd.prog 11 #[.agg #[.int .i64 t, .int .i64 c, .int .i64 r, .slice a n cap]] w fun e w' => e = .returned (.tuple #[.slice none 0 0, .int .i64 1]) ∧ Below w.heap.size w w' := by
  by_cases h8 : t = 8
  · subst h8
    exact implEncI_form 8 c r a n cap w h hm he 101 123 124 (.agg #[.int .i64 c, .int .i64 r, .slice a n cap]) (.agg #[.int .i64 c, .int .i64 r, .slice a n cap]) (.agg #[.int .i64 c, .int .i64 r, .slice a n cap]) rfl (mt_size_echo c r a n cap) (mt_put_echo c r a n cap) ent_size ent_echo (fun W => saidSize_walk c r a n cap W (by omega)) (put_echo_err c r a n cap hm) 
  by_cases h0 : t = 0
  · subst h0
    exact implEncI_form 0 c r a n cap w h hm he 102 123 126 (.agg #[.int .i64 c, .int .i64 r, .slice a n cap]) (.agg #[.int .i64 c, .int .i64 r, .slice a n cap]) (.agg #[.int .i64 c, .int .i64 r, .slice a n cap]) rfl (mt_size_echoReply c r a n cap) (mt_put_echoReply c r a n cap) ent_size ent_echoReply (fun W => saidSize_walk c r a n cap W (by omega)) (put_echoReply_err c r a n cap hm) 
  by_cases h3 : t = 3
  · subst h3
    exact implEncI_form 3 c r a n cap w h hm he 103 123 127 (.agg #[.int .i64 c, .int .i64 r, .slice a n cap]) (.agg #[.int .i64 c, .int .i64 r, .slice a n cap]) (.agg #[.int .i64 c, .int .i64 r, .slice a n cap]) rfl (mt_size_unreachable c r a n cap) (mt_put_unreachable c r a n cap) ent_size ent_unreachable (fun W => saidSize_walk c r a n cap W (by omega)) (put_unreachable_err c r a n cap hm) 
  by_cases h11 : t = 11
  · subst h11
    exact implEncI_form 11 c r a n cap w h hm he 104 123 128 (.agg #[.int .i64 c, .int .i64 r, .slice a n cap]) (.agg #[.int .i64 c, .int .i64 r, .slice a n cap]) (.agg #[.int .i64 c, .int .i64 r, .slice a n cap]) rfl (mt_size_exceeded c r a n cap) (mt_put_exceeded c r a n cap) ent_size ent_exceeded (fun W => saidSize_walk c r a n cap W (by omega)) (put_exceeded_err c r a n cap hm) 
  exact implEncI_form t c r a n cap w h hm he 106 123 129 (.agg #[.int .i64 t, .int .i64 c, .int .i64 r, .slice a n cap]) (.agg #[.int .i64 c, .int .i64 r, .slice a n cap]) (.agg #[.int .i64 t, .int .i64 c, .int .i64 r, .slice a n cap]) (by unfold msgV; rw [if_neg h8, if_neg h0, if_neg h3, if_neg h11]) (mt_size_foreign t c r a n cap) (mt_put_foreign t c r a n cap) ent_size ent_foreign (fun W => saidSize_walk c r a n cap W (by omega)) (put_foreign_err t c r a n cap hm) 
theorem implEncI_size' (t c r : Int) (a : Option Addr) (n cap : Nat) (w : World) (h : icOK t c r = true) (hn : 65000 < n) (hm : n ≤ 1048576) (he : ErrT w) :
    Calls Tryd.prog 11 #[.agg #[.int .i64 t, .int .i64 c, .int .i64 r, .slice a n cap]] w fun e w' => e = .returned (.tuple #[.slice none 0 0, .int .i64 7]) ∧ Below w.heap.size w w' := by
  by_cases h8 : t = 8
  · subst h8
    exact implEncI_size 8 c r a n cap w h hn hm he 101 123 124 (.agg #[.int .i64 c, .int .i64 r, .slice a n cap]) (.agg #[.int .i64 c, .int .i64 r, .slice a n cap]) (.agg #[.int .i64 c, .int .i64 r, .slice a n cap]) rfl (mt_size_echo c r a n cap) (mt_put_echo c r a n cap) ent_size ent_echo (fun W => saidSize_walk c r a n cap W (by omega)) (put_echo_err c r a n cap hm) 
  by_cases h0 : t = 0
  · subst h0
    exact implEncI_size 0 c r a n cap w h hn hm he 102 123 126 (.agg #[.int .i64 c, .int .i64 r, .slice a n cap]) (.agg #[.int .i64 c, .int .i64 r, .slice a n cap]) (.agg #[.int .i64 c, .int .i64 r, .slice a n cap]) rfl (mt_size_echoReply c r a n cap) (mt_put_echoReply c r a n cap) ent_size ent_echoReply (fun W => saidSize_walk c r a n cap W (by omega)) (put_echoReply_err c r a n cap hm) 
  by_cases h3 : t = 3
  · subst h3
    exact implEncI_size 3 c r a n cap w h hn hm he 103 123 127 (.agg #[.int .i64 c, .int .i64 r, .slice a n cap]) (.agg #[.int .i64 c, .int .i64 r, .slice a n cap]) (.agg #[.int .i64 c, .int .i64 r, .slice a n cap]) rfl (mt_size_unreachable c r a n cap) (mt_put_unreachable c r a n cap) ent_size ent_unreachable (fun W => saidSize_walk c r a n cap W (by omega)) (put_unreachable_err c r a n cap hm) 
  by_cases h11 : t = 11
  · subst h11
    exact implEncI_size 11 c r a n cap w h hn hm he 104 123 128 (.agg #[.int .i64 c, .int .i64 r, .slice a n cap]) (.agg #[.int .i64 c, .int .i64 r, .slice a n cap]) (.agg #[.int .i64 c, .int .i64 r, .slice a n cap]) rfl (mt_size_exceeded c r a n cap) (mt_put_exceeded c r a n cap) ent_size ent_exceeded (fun W => saidSize_walk c r a n cap W (by omega)) (put_exceeded_err c r a n cap hm) 
  exact implEncI_size t c r a n cap w h hn hm he 106 123 129 (.agg #[.int .i64 t, .int .i64 c, .int .i64 r, .slice a n cap]) (.agg #[.int .i64 c, .int .i64 r, .slice a n cap]) (.agg #[.int .i64 t, .int .i64 c, .int .i64 r, .slice a n cap]) (by unfold msgV; rw [if_neg h8, if_neg h0, if_neg h3, if_neg h11]) (mt_size_foreign t c r a n cap) (mt_put_foreign t c r a n cap) ent_size ent_foreign (fun W => saidSize_walk c r a n cap W (by omega)) (put_foreign_err t c r a n cap hm) 
theorem splice_sum (xs : List Int) (s : Int) (h : 4 ≤ xs.length) (h0 : 0 ≤ s) (h1 : s ≤ 65535) : splice xs 2 (putL s 2) = (xs.set 2 (s / 256)).set 3 (s % 256) := by
  have e2 : putL s 2 = [s / 256, s % 256] := by
    unfold putL byteOf
    simp [List.range_succ]
    omega
  rw [e2]
  have q1 := splice_set xs 3 [] (s % 256) (by omega)
  have q2 := splice_set xs 2 [s % 256] (s / 256) (by omega)
  have e : splice xs (3 + 1) [] = xs := by unfold splice; simp
  rw [e] at q1
  rw [← q2, ← q1, List.set_comm _ _ (by omega)]
theorem putL_1 (v : Int) (h0 : 0 ≤ v) (h1 : v ≤ 255) : putL v 1 = [v] := by
  unfold putL byteOf
  simp
  omega
theorem icP_icH (t c r : Int) (z : List Int) (h : icOK t c r = true) : icP t c r z = icH t c r z := by
  obtain ⟨h0, h1, h2⟩ := icOK_parts h
  have a := inB_iff.1 h0
  have b := inB_iff.1 h1
  unfold icP icH
  rw [putL_1 t a.1 a.2, putL_1 c b.1 b.2]
  rfl
/-- EncodeIcmp of the program. -/
theorem implEncIcmp (t c r : Int) (z : List Int) : EncIcmpP 11 ErrT t c r z (icL t c r z) (icC t c r z.length) := by
  intro a n cap W hn ha _ hm hp
  subst hn
  have bad : ∀ q : Int, icC t c r z.length = q → ¬ q = 0 → ∀ e w', e = Ending.returned (.tuple #[.slice none 0 0, .int .i64 q]) ∧ Below W.heap.size W w' → ∃ v : Value, e = .returned (.tuple #[v, .int .i64 (icC t c r z.length)]) ∧ OwnB w' W.heap.size v (icL t c r z) ∧ Below W.heap.size W w' := by
    rintro q hq h0 e w' ⟨rfl, hb⟩
    refine ⟨_, by rw [hq], ?_, hb⟩
    unfold icL
    rw [hq, if_neg h0]
    exact ⟨World.ownsRow_nil _ _ _ _, by simp⟩
  cases h : icOK t c r with
  | false => exact (implEncI_form' t c r a _ cap W h hm hp).mono (bad 1 (by unfold icC; rw [h]; rfl) (by decide))
  | true =>
    by_cases hs : 65000 < z.length
    · exact (implEncI_size' t c r a _ cap W h hs hm hp).mono (bad 7 (by unfold icC; rw [h, if_pos rfl, if_pos hs]) (by decide))
    · have hC : icC t c r z.length = 0 := by unfold icC; rw [h, if_pos rfl, if_neg hs]
      refine (implEncI_ok' t c r a _ cap z W h (by omega) rfl ha _ rfl).mono ?_
      rintro e w' ⟨v, rfl, hO, hb⟩
      refine ⟨v, by rw [hC], ?_, hb⟩
      have hs2 := csum_bd _ (icP_bd t c r z ha.1)
      rw [splice_sum _ _ (by rw [icP_len]; omega) hs2.1 hs2.2, icP_icH t c r z h] at hO
      unfold icL
      rw [hC, if_pos rfl]
      exact hO
end Go.Proofs.YtakoagfeiolkjabDoor
