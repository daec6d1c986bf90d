/-
 Texts that are laid as one: SeatA, SeatB.
-/
import Derived.Test.YtkfbghbjegiefaaDoorTie
import Derived.Test.YtkfbghbjegiefaaDoorCards
import Derived.ProofKit
import Derived.LaidMore
import Derived.SevenTiedAt
namespace Go.Proofs.YtkfbghbjegiefaaDoor
open Go.RowKit
set_option linter.unusedVariables false
end Go.Proofs.YtkfbghbjegiefaaDoor
