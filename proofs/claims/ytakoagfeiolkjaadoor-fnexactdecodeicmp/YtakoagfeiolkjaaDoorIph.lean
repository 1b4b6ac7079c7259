/-
Contracts of functions of this seat.
-/
import Derived.Test.YtakoagfeiolkjaaDoorRows
import Derived.WalkKit
import Derived.ProofKit
import Derived.OpenShut
import Derived.Test.YtakoagfeiolkjaaDoorIps
namespace Go.Proofs.YtakoagfeiolkjaaDoor
open Go.ChangeShapes Go.WideShapes Go.ChangeAt Go.RowKit
set_option linter.unusedVariables false
set_option maxRecDepth 100000
def hdF (n0 : Nat) : Int := bits .or .i64 64 ((20 + (n0 : Int)) / 4)
def hdL (x2 x3 : Bool) (x4 : Int) : Int := if x3 then bits .or .i64 (if x2 then bits .or .i64 (wrap64 (x4.tdiv 8)) 16384 else wrap64 (x4.tdiv 8)) 8192 else (if x2 then bits .or .i64 (wrap64 (x4.tdiv 8)) 16384 else wrap64 (x4.tdiv 8))
end Go.Proofs.YtakoagfeiolkjaaDoor
