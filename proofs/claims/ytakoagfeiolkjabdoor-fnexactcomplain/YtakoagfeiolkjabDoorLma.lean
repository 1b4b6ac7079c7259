/-
Contracts of functions of this seat.
-/
import Derived.Test.YtakoagfeiolkjabDoorRows
import Derived.WalkKit
import Derived.ProofKit
import Derived.OpenShut
import Derived.Test.YtakoagfeiolkjabDoorStp
namespace Go.Proofs.YtakoagfeiolkjabDoor
open Go.ChangeShapes Go.WideShapes Go.ChangeAt Go.RowKit
set_option linter.unusedVariables false
set_option maxRecDepth 100000
/-- What is wanted of a function of a Packet that answers a bool. -/
def BoolPacketP (f : Nat) (Pre : World → Prop) (x0 : Int) (x1 : Int) (x2 : Bool) (x3 : Bool) (x4 : Int) (x5 : Int) (x6 : Int) (x7 : Int) (x8 : Int) (z0 : List Int) (z1 : List Int) (C : Bool) : Prop :=
  ∀ (a0 : Option Addr) (n0 c0 : Nat) (a1 : Option Addr) (n1 c1 : Nat) (W : World), z0.length = n0 → Arr W a0 z0 → n0 ≤ c0 → n0 ≤ 1048576 → z1.length = n1 → Arr W a1 z1 → n1 ≤ c1 → n1 ≤ 1048576 → Pre W → Calls Tryd.prog f #[.agg #[.int .i64 x0, .int .i64 x1, .bool x2, .bool x3, .int .i64 x4, .int .i64 x5, .int .i64 x6, .int .i64 x7, .int .i64 x8, .slice a0 n0 c0, .slice a1 n1 c1]] W fun e w' => e = .returned (.bool C) ∧ Below W.heap.size W w'
end Go.Proofs.YtakoagfeiolkjabDoor
