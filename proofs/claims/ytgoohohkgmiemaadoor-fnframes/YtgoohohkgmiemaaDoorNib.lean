
/-
  The contracts of Nibbles: the model's and the program's give each byte's two nibbles.
-/
import Derived.Test.YtgoohohkgmiemaaDoorMath2
namespace Go.Proofs.YtgoohohkgmiemaaDoor
open Go.RowKit

end Go.Proofs.YtgoohohkgmiemaaDoor
