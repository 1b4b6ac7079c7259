/-
Contracts of functions of this seat.
-/
import Derived.Test.YtjiilgjdbmekgahDoorRows
import Derived.WalkKit
import Derived.ProofKit
import Derived.OpenShut
import Derived.Test.YtjiilgjdbmekgahDoorIps
namespace Go.Proofs.YtjiilgjdbmekgahDoor
open Go.ChangeShapes Go.WideShapes Go.ChangeAt Go.RowKit
set_option linter.unusedVariables false
set_option maxRecDepth 100000
theorem BoxPacket.b {w0 w : World} {x0 : Int} {x1 : Int} {x2 : Bool} {x3 : Bool} {x4 : Int} {x5 : Int} {x6 : Int} {x7 : Int} {x8 : Int} {v0 : Value} {v1 : Value} (h : BoxPacket w0 w x0 x1 x2 x3 x4 x5 x6 x7 x8 v0 v1) : Below w0.heap.size w0 w := h.1
def hdF (n0 : Nat) : Int := bits .or .i64 64 ((20 + (n0 : Int)) / 4)
def hdL (x2 x3 : Bool) (x4 : Int) : Int := if x3 then bits .or .i64 (if x2 then bits .or .i64 (wrap64 (x4.tdiv 8)) 16384 else wrap64 (x4.tdiv 8)) 8192 else (if x2 then bits .or .i64 (wrap64 (x4.tdiv 8)) 16384 else wrap64 (x4.tdiv 8))
end Go.Proofs.YtjiilgjdbmekgahDoor
