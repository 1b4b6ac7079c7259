/-
Contracts of functions of this seat.
-/
import Derived.Test.YtakoagfeiolkjabDoorRows
import Derived.WalkKit
import Derived.ProofKit
import Derived.OpenShut
import Derived.Test.YtakoagfeiolkjabDoorIcp
namespace Go.Proofs.YtakoagfeiolkjabDoor
open Go.ChangeShapes Go.WideShapes Go.ChangeAt Go.RowKit
set_option linter.unusedVariables false
set_option maxRecDepth 100000
theorem mt_size_echo (c r : Int) (a : Option Addr) (n cap : Nat) (W : World) : (Go.method 281 101 (.agg #[.int .i64 c, .int .i64 r, .slice a n cap]) "loop.example/g00003/impl.size").run Tryd.prog W = .ok (123, .agg #[.int .i64 c, .int .i64 r, .slice a n cap]) W := by kernel_rfl
theorem mt_put_echo (c r : Int) (a : Option Addr) (n cap : Nat) (W : World) : (Go.method 281 101 (.agg #[.int .i64 c, .int .i64 r, .slice a n cap]) "loop.example/g00003/impl.put").run Tryd.prog W = .ok (124, .agg #[.int .i64 c, .int .i64 r, .slice a n cap]) W := by kernel_rfl
theorem ent_echo (args : Array Value) (W : World) : (callFunc 124 args).run Tryd.prog W = .ok (.enter 124 args) W := by kernel_rfl
set_option maxHeartbeats 2000000 in
theorem put_echo_ok (c r : Int) (a : Option Addr) (n cap : Nat) (z : List Int) (hn : 8 + n ≤ 1048576) (hz : z.length = n) (g G : Nat) (w : World) (hc : Cur w g (.slice (some ⟨G, 0, none⟩) (8 + n) (8 + n)) 0 .nilIface) (hr : RowB w G (List.replicate (8 + n) 0)) (hg : g < G) (ha : Arr w a z) (hag : ∀ j, j < z.length → ∃ b off, a = some ⟨b, off, none⟩ ∧ b < g) :
    Calls Tryd.prog 124 #[.agg #[.int .i64 c, .int .i64 r, .slice a n cap], .pointer (some ⟨g, 0, none⟩)] w fun e w' => e = .returned (.tuple #[]) ∧ Cur w' g (.slice (some ⟨G, 0, none⟩) (8 + n) (8 + n)) (8 + n) .nilIface ∧ RowB w' G (splice (icP 8 c r z) 2 (putL (csum (icP 8 c r z)) 2)) ∧ Only [g, G] w w' := by
  have HW := hide (BoxV.start w #[.int .i64 c, .int .i64 r, .slice a n cap] 101)
  have CP := hide (putAs_ok g G (8 + n) n cap a 8 c r z _ (hc.below HW.out.1 hc.lt) (hr.below HW.out.1 hr.lt) hg rfl hn hz (ha.below HW.out.1 (Nat.le_refl _)) hag)
  have k0 := HW.out.cell 0 _ rfl
  have k1 := HW.out.cell 1 _ rfl
  have k2 := HW.out.cell 2 _ rfl
  clear hc hr ha hag
  go_enter Tryd.func124, Tryd.ntmps124
  go_wp2_with fail
  refine CP.out.mono ?_
  rintro e w1 ⟨rfl, h1, h2, h3⟩
  have H1 := hide h1
  have H2 := hide h2
  have H3 := hide ((Only.of_below (S := [g, G]) HW.out.1).trans h3)
  clear h1 h2 h3 CP
  go_wp2_with fail
  go_end0
  exact ⟨rfl, H1.out, H2.out, H3.out⟩
set_option maxHeartbeats 2000000 in
theorem put_echo_err (c r : Int) (a : Option Addr) (n cap : Nat) (hn : n ≤ 1048576) (g : Nat) (q : Int) (w : World) (hc : Cur w g (.slice none 0 0) 0 (wErr q)) :
    Calls Tryd.prog 124 #[.agg #[.int .i64 c, .int .i64 r, .slice a n cap], .pointer (some ⟨g, 0, none⟩)] w fun e w' => e = .returned (.tuple #[]) ∧ Below w.heap.size w w' := by
  have HW := hide (BoxV.start w #[.int .i64 c, .int .i64 r, .slice a n cap] 101)
  have CP := hide (putAs_err g n cap a 8 c r q _ (hc.below HW.out.1 hc.lt) hn)
  have k0 := HW.out.cell 0 _ rfl
  have k1 := HW.out.cell 1 _ rfl
  have k2 := HW.out.cell 2 _ rfl
  clear hc
  go_enter Tryd.func124, Tryd.ntmps124
  go_wp2_with fail
  refine CP.out.mono ?_
  rintro e w1 ⟨rfl, h3⟩
  have H3 := hide (HW.out.1.trans (h3.mono HW.out.1.size))
  clear h3 CP
  go_wp2_with fail
  go_end0
  exact ⟨rfl, H3.out⟩
theorem mt_size_echoReply (c r : Int) (a : Option Addr) (n cap : Nat) (W : World) : (Go.method 281 102 (.agg #[.int .i64 c, .int .i64 r, .slice a n cap]) "loop.example/g00003/impl.size").run Tryd.prog W = .ok (123, .agg #[.int .i64 c, .int .i64 r, .slice a n cap]) W := by kernel_rfl
theorem mt_put_echoReply (c r : Int) (a : Option Addr) (n cap : Nat) (W : World) : (Go.method 281 102 (.agg #[.int .i64 c, .int .i64 r, .slice a n cap]) "loop.example/g00003/impl.put").run Tryd.prog W = .ok (126, .agg #[.int .i64 c, .int .i64 r, .slice a n cap]) W := by kernel_rfl
theorem ent_echoReply (args : Array Value) (W : World) : (callFunc 126 args).run Tryd.prog W = .ok (.enter 126 args) W := by kernel_rfl
set_option maxHeartbeats 2000000 in
theorem put_echoReply_ok (c r : Int) (a : Option Addr) (n cap : Nat) (z : List Int) (hn : 8 + n ≤ 1048576) (hz : z.length = n) (g G : Nat) (w : World) (hc : Cur w g (.slice (some ⟨G, 0, none⟩) (8 + n) (8 + n)) 0 .nilIface) (hr : RowB w G (List.replicate (8 + n) 0)) (hg : g < G) (ha : Arr w a z) (hag : ∀ j, j < z.length → ∃ b off, a = some ⟨b, off, none⟩ ∧ b < g) :
    Calls Tryd.prog 126 #[.agg #[.int .i64 c, .int .i64 r, .slice a n cap], .pointer (some ⟨g, 0, none⟩)] w fun e w' => e = .returned (.tuple #[]) ∧ Cur w' g (.slice (some ⟨G, 0, none⟩) (8 + n) (8 + n)) (8 + n) .nilIface ∧ RowB w' G (splice (icP 0 c r z) 2 (putL (csum (icP 0 c r z)) 2)) ∧ Only [g, G] w w' := by
  have HW := hide (BoxV.start w #[.int .i64 c, .int .i64 r, .slice a n cap] 102)
  have CP := hide (putAs_ok g G (8 + n) n cap a 0 c r z _ (hc.below HW.out.1 hc.lt) (hr.below HW.out.1 hr.lt) hg rfl hn hz (ha.below HW.out.1 (Nat.le_refl _)) hag)
  have k0 := HW.out.cell 0 _ rfl
  have k1 := HW.out.cell 1 _ rfl
  have k2 := HW.out.cell 2 _ rfl
  clear hc hr ha hag
  go_enter Tryd.func126, Tryd.ntmps126
  go_wp2_with fail
  refine CP.out.mono ?_
  rintro e w1 ⟨rfl, h1, h2, h3⟩
  have H1 := hide h1
  have H2 := hide h2
  have H3 := hide ((Only.of_below (S := [g, G]) HW.out.1).trans h3)
  clear h1 h2 h3 CP
  go_wp2_with fail
  go_end0
  exact ⟨rfl, H1.out, H2.out, H3.out⟩
set_option maxHeartbeats 2000000 in
theorem put_echoReply_err (c r : Int) (a : Option Addr) (n cap : Nat) (hn : n ≤ 1048576) (g : Nat) (q : Int) (w : World) (hc : Cur w g (.slice none 0 0) 0 (wErr q)) :
    Calls Tryd.prog 126 #[.agg #[.int .i64 c, .int .i64 r, .slice a n cap], .pointer (some ⟨g, 0, none⟩)] w fun e w' => e = .returned (.tuple #[]) ∧ Below w.heap.size w w' := by
  have HW := hide (BoxV.start w #[.int .i64 c, .int .i64 r, .slice a n cap] 102)
  have CP := hide (putAs_err g n cap a 0 c r q _ (hc.below HW.out.1 hc.lt) hn)
  have k0 := HW.out.cell 0 _ rfl
  have k1 := HW.out.cell 1 _ rfl
  have k2 := HW.out.cell 2 _ rfl
  clear hc
  go_enter Tryd.func126, Tryd.ntmps126
  go_wp2_with fail
  refine CP.out.mono ?_
  rintro e w1 ⟨rfl, h3⟩
  have H3 := hide (HW.out.1.trans (h3.mono HW.out.1.size))
  clear h3 CP
  go_wp2_with fail
  go_end0
  exact ⟨rfl, H3.out⟩
theorem mt_size_unreachable (c r : Int) (a : Option Addr) (n cap : Nat) (W : World) : (Go.method 281 103 (.agg #[.int .i64 c, .int .i64 r, .slice a n cap]) "loop.example/g00003/impl.size").run Tryd.prog W = .ok (123, .agg #[.int .i64 c, .int .i64 r, .slice a n cap]) W := by kernel_rfl
theorem mt_put_unreachable (c r : Int) (a : Option Addr) (n cap : Nat) (W : World) : (Go.method 281 103 (.agg #[.int .i64 c, .int .i64 r, .slice a n cap]) "loop.example/g00003/impl.put").run Tryd.prog W = .ok (127, .agg #[.int .i64 c, .int .i64 r, .slice a n cap]) W := by kernel_rfl
theorem ent_unreachable (args : Array Value) (W : World) : (callFunc 127 args).run Tryd.prog W = .ok (.enter 127 args) W := by kernel_rfl
set_option maxHeartbeats 2000000 in
theorem put_unreachable_ok (c r : Int) (a : Option Addr) (n cap : Nat) (z : List Int) (hn : 8 + n ≤ 1048576) (hz : z.length = n) (g G : Nat) (w : World) (hc : Cur w g (.slice (some ⟨G, 0, none⟩) (8 + n) (8 + n)) 0 .nilIface) (hr : RowB w G (List.replicate (8 + n) 0)) (hg : g < G) (ha : Arr w a z) (hag : ∀ j, j < z.length → ∃ b off, a = some ⟨b, off, none⟩ ∧ b < g) :
    Calls Tryd.prog 127 #[.agg #[.int .i64 c, .int .i64 r, .slice a n cap], .pointer (some ⟨g, 0, none⟩)] w fun e w' => e = .returned (.tuple #[]) ∧ Cur w' g (.slice (some ⟨G, 0, none⟩) (8 + n) (8 + n)) (8 + n) .nilIface ∧ RowB w' G (splice (icP 3 c r z) 2 (putL (csum (icP 3 c r z)) 2)) ∧ Only [g, G] w w' := by
  have HW := hide (BoxV.start w #[.int .i64 c, .int .i64 r, .slice a n cap] 103)
  have CP := hide (putAs_ok g G (8 + n) n cap a 3 c r z _ (hc.below HW.out.1 hc.lt) (hr.below HW.out.1 hr.lt) hg rfl hn hz (ha.below HW.out.1 (Nat.le_refl _)) hag)
  have k0 := HW.out.cell 0 _ rfl
  have k1 := HW.out.cell 1 _ rfl
  have k2 := HW.out.cell 2 _ rfl
  clear hc hr ha hag
  go_enter Tryd.func127, Tryd.ntmps127
  go_wp2_with fail
  refine CP.out.mono ?_
  rintro e w1 ⟨rfl, h1, h2, h3⟩
  have H1 := hide h1
  have H2 := hide h2
  have H3 := hide ((Only.of_below (S := [g, G]) HW.out.1).trans h3)
  clear h1 h2 h3 CP
  go_wp2_with fail
  go_end0
  exact ⟨rfl, H1.out, H2.out, H3.out⟩
set_option maxHeartbeats 2000000 in
theorem put_unreachable_err (c r : Int) (a : Option Addr) (n cap : Nat) (hn : n ≤ 1048576) (g : Nat) (q : Int) (w : World) (hc : Cur w g (.slice none 0 0) 0 (wErr q)) :
    Calls Tryd.prog 127 #[.agg #[.int .i64 c, .int .i64 r, .slice a n cap], .pointer (some ⟨g, 0, none⟩)] w fun e w' => e = .returned (.tuple #[]) ∧ Below w.heap.size w w' := by
  have HW := hide (BoxV.start w #[.int .i64 c, .int .i64 r, .slice a n cap] 103)
  have CP := hide (putAs_err g n cap a 3 c r q _ (hc.below HW.out.1 hc.lt) hn)
  have k0 := HW.out.cell 0 _ rfl
  have k1 := HW.out.cell 1 _ rfl
  have k2 := HW.out.cell 2 _ rfl
  clear hc
  go_enter Tryd.func127, Tryd.ntmps127
  go_wp2_with fail
  refine CP.out.mono ?_
  rintro e w1 ⟨rfl, h3⟩
  have H3 := hide (HW.out.1.trans (h3.mono HW.out.1.size))
  clear h3 CP
  go_wp2_with fail
  go_end0
  exact ⟨rfl, H3.out⟩
theorem mt_size_exceeded (c r : Int) (a : Option Addr) (n cap : Nat) (W : World) : (Go.method 281 104 (.agg #[.int .i64 c, .int .i64 r, .slice a n cap]) "loop.example/g00003/impl.size").run Tryd.prog W = .ok (123, .agg #[.int .i64 c, .int .i64 r, .slice a n cap]) W := by kernel_rfl
theorem mt_put_exceeded (c r : Int) (a : Option Addr) (n cap : Nat) (W : World) : (Go.method 281 104 (.agg #[.int .i64 c, .int .i64 r, .slice a n cap]) "loop.example/g00003/impl.put").run Tryd.prog W = .ok (128, .agg #[.int .i64 c, .int .i64 r, .slice a n cap]) W := by kernel_rfl
theorem ent_exceeded (args : Array Value) (W : World) : (callFunc 128 args).run Tryd.prog W = .ok (.enter 128 args) W := by kernel_rfl
set_option maxHeartbeats 2000000 in
theorem put_exceeded_ok (c r : Int) (a : Option Addr) (n cap : Nat) (z : List Int) (hn : 8 + n ≤ 1048576) (hz : z.length = n) (g G : Nat) (w : World) (hc : Cur w g (.slice (some ⟨G, 0, none⟩) (8 + n) (8 + n)) 0 .nilIface) (hr : RowB w G (List.replicate (8 + n) 0)) (hg : g < G) (ha : Arr w a z) (hag : ∀ j, j < z.length → ∃ b off, a = some ⟨b, off, none⟩ ∧ b < g) :
    Calls Tryd.prog 128 #[.agg #[.int .i64 c, .int .i64 r, .slice a n cap], .pointer (some ⟨g, 0, none⟩)] w fun e w' => e = .returned (.tuple #[]) ∧ Cur w' g (.slice (some ⟨G, 0, none⟩) (8 + n) (8 + n)) (8 + n) .nilIface ∧ RowB w' G (splice (icP 11 c r z) 2 (putL (csum (icP 11 c r z)) 2)) ∧ Only [g, G] w w' := by
  have HW := hide (BoxV.start w #[.int .i64 c, .int .i64 r, .slice a n cap] 104)
  have CP := hide (putAs_ok g G (8 + n) n cap a 11 c r z _ (hc.below HW.out.1 hc.lt) (hr.below HW.out.1 hr.lt) hg rfl hn hz (ha.below HW.out.1 (Nat.le_refl _)) hag)
  have k0 := HW.out.cell 0 _ rfl
  have k1 := HW.out.cell 1 _ rfl
  have k2 := HW.out.cell 2 _ rfl
  clear hc hr ha hag
  go_enter Tryd.func128, Tryd.ntmps128
  go_wp2_with fail
  refine CP.out.mono ?_
  rintro e w1 ⟨rfl, h1, h2, h3⟩
  have H1 := hide h1
  have H2 := hide h2
  have H3 := hide ((Only.of_below (S := [g, G]) HW.out.1).trans h3)
  clear h1 h2 h3 CP
  go_wp2_with fail
  go_end0
  exact ⟨rfl, H1.out, H2.out, H3.out⟩
set_option maxHeartbeats 2000000 in
theorem put_exceeded_err (c r : Int) (a : Option Addr) (n cap : Nat) (hn : n ≤ 1048576) (g : Nat) (q : Int) (w : World) (hc : Cur w g (.slice none 0 0) 0 (wErr q)) :
    Calls Tryd.prog 128 #[.agg #[.int .i64 c, .int .i64 r, .slice a n cap], .pointer (some ⟨g, 0, none⟩)] w fun e w' => e = .returned (.tuple #[]) ∧ Below w.heap.size w w' := by
  have HW := hide (BoxV.start w #[.int .i64 c, .int .i64 r, .slice a n cap] 104)
  have CP := hide (putAs_err g n cap a 11 c r q _ (hc.below HW.out.1 hc.lt) hn)
  have k0 := HW.out.cell 0 _ rfl
  have k1 := HW.out.cell 1 _ rfl
  have k2 := HW.out.cell 2 _ rfl
  clear hc
  go_enter Tryd.func128, Tryd.ntmps128
  go_wp2_with fail
  refine CP.out.mono ?_
  rintro e w1 ⟨rfl, h3⟩
  have H3 := hide (HW.out.1.trans (h3.mono HW.out.1.size))
  clear h3 CP
  go_wp2_with fail
  go_end0
  exact ⟨rfl, H3.out⟩
theorem mt_size_foreign (t : Int) (c r : Int) (a : Option Addr) (n cap : Nat) (W : World) : (Go.method 281 106 (.agg #[.int .i64 t, .int .i64 c, .int .i64 r, .slice a n cap]) "loop.example/g00003/impl.size").run Tryd.prog W = .ok (123, .agg #[.int .i64 c, .int .i64 r, .slice a n cap]) W := by kernel_rfl
theorem mt_put_foreign (t : Int) (c r : Int) (a : Option Addr) (n cap : Nat) (W : World) : (Go.method 281 106 (.agg #[.int .i64 t, .int .i64 c, .int .i64 r, .slice a n cap]) "loop.example/g00003/impl.put").run Tryd.prog W = .ok (129, .agg #[.int .i64 t, .int .i64 c, .int .i64 r, .slice a n cap]) W := by kernel_rfl
theorem ent_foreign (args : Array Value) (W : World) : (callFunc 129 args).run Tryd.prog W = .ok (.enter 129 args) W := by kernel_rfl
set_option maxHeartbeats 2000000 in
theorem put_foreign_ok (t : Int) (c r : Int) (a : Option Addr) (n cap : Nat) (z : List Int) (hn : 8 + n ≤ 1048576) (hz : z.length = n) (g G : Nat) (w : World) (hc : Cur w g (.slice (some ⟨G, 0, none⟩) (8 + n) (8 + n)) 0 .nilIface) (hr : RowB w G (List.replicate (8 + n) 0)) (hg : g < G) (ha : Arr w a z) (hag : ∀ j, j < z.length → ∃ b off, a = some ⟨b, off, none⟩ ∧ b < g) :
    Calls Tryd.prog 129 #[.agg #[.int .i64 t, .int .i64 c, .int .i64 r, .slice a n cap], .pointer (some ⟨g, 0, none⟩)] w fun e w' => e = .returned (.tuple #[]) ∧ Cur w' g (.slice (some ⟨G, 0, none⟩) (8 + n) (8 + n)) (8 + n) .nilIface ∧ RowB w' G (splice (icP t c r z) 2 (putL (csum (icP t c r z)) 2)) ∧ Only [g, G] w w' := by
  have HW := hide (BoxV.start w #[.int .i64 t, .int .i64 c, .int .i64 r, .slice a n cap] 106)
  have CP := hide (putAs_ok g G (8 + n) n cap a t c r z _ (hc.below HW.out.1 hc.lt) (hr.below HW.out.1 hr.lt) hg rfl hn hz (ha.below HW.out.1 (Nat.le_refl _)) hag)
  have k0 := HW.out.cell 0 _ rfl
  have k1 := HW.out.cell 1 _ rfl
  have k2 := HW.out.cell 2 _ rfl
  have k3 := HW.out.cell 3 _ rfl
  clear hc hr ha hag
  go_enter Tryd.func129, Tryd.ntmps129
  go_wp2_with fail
  refine CP.out.mono ?_
  rintro e w1 ⟨rfl, h1, h2, h3⟩
  have H1 := hide h1
  have H2 := hide h2
  have H3 := hide ((Only.of_below (S := [g, G]) HW.out.1).trans h3)
  clear h1 h2 h3 CP
  go_wp2_with fail
  go_end0
  exact ⟨rfl, H1.out, H2.out, H3.out⟩
set_option maxHeartbeats 2000000 in
theorem put_foreign_err (t : Int) (c r : Int) (a : Option Addr) (n cap : Nat) (hn : n ≤ 1048576) (g : Nat) (q : Int) (w : World) (hc : Cur w g (.slice none 0 0) 0 (wErr q)) :
    Calls Tryd.prog 129 #[.agg #[.int .i64 t, .int .i64 c, .int .i64 r, .slice a n cap], .pointer (some ⟨g, 0, none⟩)] w fun e w' => e = .returned (.tuple #[]) ∧ Below w.heap.size w w' := by
  have HW := hide (BoxV.start w #[.int .i64 t, .int .i64 c, .int .i64 r, .slice a n cap] 106)
  have CP := hide (putAs_err g n cap a t c r q _ (hc.below HW.out.1 hc.lt) hn)
  have k0 := HW.out.cell 0 _ rfl
  have k1 := HW.out.cell 1 _ rfl
  have k2 := HW.out.cell 2 _ rfl
  have k3 := HW.out.cell 3 _ rfl
  clear hc
  go_enter Tryd.func129, Tryd.ntmps129
  go_wp2_with fail
  refine CP.out.mono ?_
  rintro e w1 ⟨rfl, h3⟩
  have H3 := hide (HW.out.1.trans (h3.mono HW.out.1.size))
  clear h3 CP
  go_wp2_with fail
  go_end0
  exact ⟨rfl, H3.out⟩
theorem ent_size (args : Array Value) (W : World) : (callFunc 123 args).run Tryd.prog W = .ok (.enter 123 args) W := by kernel_rfl
end Go.Proofs.YtakoagfeiolkjabDoor
