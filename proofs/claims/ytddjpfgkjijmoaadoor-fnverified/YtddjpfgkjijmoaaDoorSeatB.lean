/-
  Closed facts of the seat's program that every card asks, each reckoned once.
-/
import Derived.Test.YtddjpfgkjijmoaaDoorTie
import Derived.Test.YtddjpfgkjijmoaaDoorCards
import Derived.ProofKit
import Derived.LaidMore
import Derived.SevenTiedAt
namespace Go.Proofs.YtddjpfgkjijmoaaDoor
open Go.RowKit

theorem seat_make : Tryd.prog.make = some Rows.fnSignedRow.make := by kernel_rfl
theorem seat_main : Tryd.prog.mainIs = some (true, Rows.fnSignedCard.stood.harness.2.toList) := by kernel_rfl
end Go.Proofs.YtddjpfgkjijmoaaDoor
