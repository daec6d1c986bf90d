
/-
  Contract: the size of a row of texts, whatever is left.
-/
import Derived.Test.YtcfflfpdoihpmaaStrsAll
namespace Go.Proofs.Ytcfflfpdoihpmaa
open Go.RowKit
set_option linter.unusedVariables false

end Go.Proofs.Ytcfflfpdoihpmaa
