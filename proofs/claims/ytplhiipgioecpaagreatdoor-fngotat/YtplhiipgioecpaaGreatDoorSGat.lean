/-
 Contract: the pairs under a node, of the model.
-/
import Derived.Test.YtplhiipgioecpaaGreatDoorGatAll
import Derived.Test.YtplhiipgioecpaaGreatDoorStepAll
import Derived.Test.YtplhiipgioecpaaGreatDoorSBranch
namespace Go.Proofs.YtplhiipgioecpaaGreatDoor
open Go.RowKit
set_option linter.unusedVariables false
end Go.Proofs.YtplhiipgioecpaaGreatDoor
