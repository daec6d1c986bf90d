/-
 Contract: the pairs under a node, of the model.
-/
import Derived.Test.YtokfcfcdfhoejaaGreatDoorGatAll
import Derived.Test.YtokfcfcdfhoejaaGreatDoorStepAll
import Derived.Test.YtokfcfcdfhoejaaGreatDoorSBranch
namespace Go.Proofs.YtokfcfcdfhoejaaGreatDoor
open Go.RowKit
set_option linter.unusedVariables false
end Go.Proofs.YtokfcfcdfhoejaaGreatDoor
