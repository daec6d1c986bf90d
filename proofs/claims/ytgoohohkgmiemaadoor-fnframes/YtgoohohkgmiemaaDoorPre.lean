
/-
  Contracts: the nibble tests, packing, and the model's HexPrefix.
-/
import Derived.Test.YtgoohohkgmiemaaDoorNib
import Derived.Test.YtgoohohkgmiemaaDoorMathAll
namespace Go.Proofs.YtgoohohkgmiemaaDoor
open Go.RowKit

/-- What HexPrefix answers. -/
def hexPre (l : List UInt8) (leaf : Bool) : List UInt8 := if l.length ≤ 60000 ∧ isNibs l = true then pack (withFlag l leaf) else []
def hexOk (l : List UInt8) : Bool := decide (l.length ≤ 60000) && isNibs l

end Go.Proofs.YtgoohohkgmiemaaDoor
