
/-
  Contract: the size of a row of texts, whatever is left.
-/
import Derived.Test.YtapmakefpmholaaGreatDoorStrsAll
namespace Go.Proofs.YtapmakefpmholaaGreatDoor
open Go.RowKit
set_option linter.unusedVariables false

end Go.Proofs.YtapmakefpmholaaGreatDoor
