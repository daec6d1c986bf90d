
/-
  The contracts of Nibbles: the model's and the program's give each byte's two nibbles.
-/
import Derived.Test.YtcgodnmbehjfaaaMath2
namespace Go.Proofs.Ytcgodnmbehjfaaa
open Go.RowKit

end Go.Proofs.Ytcgodnmbehjfaaa
