/-
 Contract: the pairs under a node, of the model.
-/
import Derived.Test.YthnddgdnialogaaGreatDoorGatAll
import Derived.Test.YthnddgdnialogaaGreatDoorStepAll
import Derived.Test.YthnddgdnialogaaGreatDoorSBranch
namespace Go.Proofs.YthnddgdnialogaaGreatDoor
open Go.RowKit
set_option linter.unusedVariables false
end Go.Proofs.YthnddgdnialogaaGreatDoor
