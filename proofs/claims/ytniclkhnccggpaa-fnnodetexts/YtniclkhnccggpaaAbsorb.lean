
/-
  Contract: whole blocks, taken into a state.
-/
import Derived.Test.YtniclkhnccggpaaMixed
import Derived.Test.YtniclkhnccggpaaTurnAll
import Derived.Deep.RegionWith
namespace Go.Proofs.Ytniclkhnccggpaa
open Go.RowKit
set_option linter.unusedVariables false

end Go.Proofs.Ytniclkhnccggpaa
