/-
 Contract: the pairs under a node, of the model.
-/
import Derived.Test.YtmjbnlbnlnioaaaGreatDoorGatAll
import Derived.Test.YtmjbnlbnlnioaaaGreatDoorStepAll
import Derived.Test.YtmjbnlbnlnioaaaGreatDoorSBranch
namespace Go.Proofs.YtmjbnlbnlnioaaaGreatDoor
open Go.RowKit
set_option linter.unusedVariables false
end Go.Proofs.YtmjbnlbnlnioaaaGreatDoor
