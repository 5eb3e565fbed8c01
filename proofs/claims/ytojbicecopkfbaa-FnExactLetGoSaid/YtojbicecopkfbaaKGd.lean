/-
  SpecOne: texts joined.
-/
import Derived.Test.YtojbicecopkfbaaKGa
import Derived.Test.YtojbicecopkfbaaRows
import Derived.Lib.Hide
import Derived.OpenShut
import Derived.ProofKit
import Derived.WalkKit
namespace Go.Proofs.Ytojbicecopkfbaa
set_option maxRecDepth 100000
open Go.ChangeShapes Go.WideShapes Go.ChangeAt Go.RowKit
open Fld

theorem ret_bool {a b : Bool} (h : a = b) : Ending.returned (.bool a) = .returned (.bool b) := by rw [h]

end Go.Proofs.Ytojbicecopkfbaa
