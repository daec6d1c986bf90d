
/-
  Contracts: a state's text; the last blocks, filled up.
-/
import Derived.Test.YtniclkhnccggpaaAbsorb
import Derived.Test.YtniclkhnccggpaaMathAll
namespace Go.Proofs.Ytniclkhnccggpaa
open Go.RowKit
set_option linter.unusedVariables false

theorem bcells_append (a b : List UInt8) : bcells (a ++ b) = bcells a ++ bcells b := by simp [bcells]

theorem RowX.drew {w : World} {base g n cap : Nat} {xs : List Value} (h : RowX w base g n cap xs) : RowX w.drew base g n cap xs := ⟨h.len, h.low, h.lt, h.fit, h.cells, h.spare⟩

end Go.Proofs.Ytniclkhnccggpaa
