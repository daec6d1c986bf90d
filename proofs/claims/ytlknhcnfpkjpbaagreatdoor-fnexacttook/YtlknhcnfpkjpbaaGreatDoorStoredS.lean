
/-
  Contracts of the laws' own helpers on rows of Stored: copies, sizes, equal rows, marks laid and held.
-/
import Derived.Test.YtlknhcnfpkjpbaaGreatDoorStrsAll
import Derived.Test.YtlknhcnfpkjpbaaGreatDoorPairs
import Derived.OneCell
import Derived.Deep.RegionHeld3
namespace Go.Proofs.YtlknhcnfpkjpbaaGreatDoor
open Go.RowKit
set_option linter.unusedVariables false

theorem infoStored : (Tryz.prog.info? 98).map (fun i => (i.zero, i.size, i.bytes)) = some (some (.agg #[.string ⟨#[]⟩, .string ⟨#[]⟩]), 2, 32) := by kernel_rfl

end Go.Proofs.YtlknhcnfpkjpbaaGreatDoor
