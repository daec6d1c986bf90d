
/-
  Contract: the size of a row of texts, whatever is left.
-/
import Derived.Test.YtjlkeoocddianaaDoorStrsAll
namespace Go.Proofs.YtjlkeoocddianaaDoor
open Go.RowKit
set_option linter.unusedVariables false

end Go.Proofs.YtjlkeoocddianaaDoor
