
/-
  Contracts of the laws' own helpers on rows of Stored: copies, sizes, equal rows, marks laid and held.
-/
import Derived.Test.YtldkilpndcafjaaDoorStrsAll
import Derived.Test.YtldkilpndcafjaaDoorPairs
import Derived.OneCell
import Derived.Deep.RegionHeld3
namespace Go.Proofs.YtldkilpndcafjaaDoor
open Go.RowKit
set_option linter.unusedVariables false

theorem infoStored : (Tryd.prog.info? 37).map (fun i => (i.zero, i.size, i.bytes)) = some (some (.agg #[.string ⟨#[]⟩, .string ⟨#[]⟩]), 2, 32) := by kernel_rfl

end Go.Proofs.YtldkilpndcafjaaDoor
