
/-
  Contracts: the item of a text, the model's and the program's.
-/
import Derived.Test.YtgoohohkgmiemaaDoorWrap
import Derived.Test.YtgoohohkgmiemaaDoorMathAll
namespace Go.Proofs.YtgoohohkgmiemaaDoor
open Go.RowKit
set_option linter.unusedVariables false

end Go.Proofs.YtgoohohkgmiemaaDoor
