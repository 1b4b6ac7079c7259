/-
Contracts of functions of this seat.
-/
import Derived.Test.YtakoagfeiolkjaaDoorRows
import Derived.WalkKit
import Derived.ProofKit
import Derived.OpenShut
import Derived.Test.YtakoagfeiolkjaaDoorIp0
namespace Go.Proofs.YtakoagfeiolkjaaDoor
open Go.ChangeShapes Go.WideShapes Go.ChangeAt Go.RowKit
set_option linter.unusedVariables false
set_option maxRecDepth 100000
set_option maxHeartbeats 8000000 in
theorem packet_walk (F : Nat) (w : World) (y0 y1 y2 y3 y4 y5 y6 y7 y8 : Int) (ao : Option Addr) (lo co : Nat) (ap : Option Addr) (lp cp : Nat) (hf : FR w F y0 y1 y2 y3 y4 y5 y6 y7 y8 (.slice ao lo co) (.slice ap lp cp)) (e1 e2 : Bool) (h1 : (bits .and .i64 y4 16384 != 0) = e1) (h2 : (bits .and .i64 y4 8192 != 0) = e2) :
    Calls Tryd.prog 38 #[.pointer (some ⟨F, 0, none⟩)] w fun e w' => e = .returned (.agg #[.int .i64 y1, .int .i64 y3, .bool e1, .bool e2, .int .i64 (y4 % 8192 * 8), .int .i64 y5, .int .i64 y6, .int .i64 y7, .int .i64 y8, .slice ao lo co, .slice ap lp cp]) ∧ Below w.heap.size w w' := by
  have HS := hide (ResP.start w)
  have HF := hide (hf.only (Only.of_below (S := []) HS.out.1) (by simp))
  have H1 := hide h1
  have H2 := hide h2
  clear hf h1 h2
  go_enter Tryd.func38, Tryd.ntmps38
  go_wp2_with fail
  have HS2 := hide (HS.out.next (below_drewN (Below.refl _ _) 1))
  have HF2 := hide (FR.drewN HF.out 1)
  refine region_tail 52 (by kernel_rfl) (by kernel_rfl) ?_
  clear HS HF
  generalize hW : (w.alloc (.cells #[.int .i64 0, .int .i64 0, .bool false, .bool false, .int .i64 0, .int .i64 0, .int .i64 0, .int .i64 0, .int .i64 0, .slice none 0 0, .slice none 0 0] 39)).drew = V at *
  have HS : Hid (ResP w V) := hide (by rw [← hW]; exact HS2.out)
  have HF : Hid (FR V F y0 y1 y2 y3 y4 y5 y6 y7 y8 (.slice ao lo co) (.slice ap lp cp)) := hide (by rw [← hW]; exact HF2.out)
  clear hW HS2 HF2
  obtain ⟨f0, f1, f2, f3, f4, f5, f6, f7, f8, f9, f10, ff⟩ := HF.out.cells
  simp only [List.take_succ_cons, List.take_zero, List.drop_succ_cons, List.drop_zero]
  repeat (first | go_big_quiet_skip | (go_big_quiet_want; go_big_quiet_op; first | go_big_quiet_on | (apply Exists.intro; refine ⟨?_, ?_⟩; (first | (go_at_call_of 46 (Value.int IntKind.i64 16384); exact has_lit F y4 16384 e1 V f4 H1.out) | (go_at_call_of 46 (Value.int IntKind.i64 8192); exact has_lit F y4 8192 e2 V f4 H2.out) | (go_at_call 48; exact hoffset_walk F y4 V f4)); go_big_quiet_on)))
  refine wpQuiet_nil ?_
  clear f0 f1 f2 f3 f4 f5 f6 f7 f8 f9 f10 ff
  obtain ⟨d0, d1, d2, d3, d4, d5, d6, d7, d8, d9, d10, df⟩ := cellsP HS.out.2.2
  go_wp2_with fail
  exact bodyPost_ret (v := .agg #[.int .i64 y1, .int .i64 y3, .bool e1, .bool e2, .int .i64 (y4 % 8192 * 8), .int .i64 y5, .int .i64 y6, .int .i64 y7, .int .i64 y8, .slice ao lo co, .slice ap lp cp]) (by simp [results, Tryd.results38, go_sem, d0, d1, d2, d3, d4, d5, d6, d7, d8, d9, d10]) rfl ⟨rfl, below_11 HS.out.1⟩
end Go.Proofs.YtakoagfeiolkjaaDoor
