/-
  Closed facts of the seat's program that every card asks, each reckoned once.
-/
import Derived.Test.YtgcaofedhhkacaaDoorTie
import Derived.Test.YtgcaofedhhkacaaDoorCards
import Derived.ProofKit
import Derived.LaidMore
import Derived.SevenTiedAt
namespace Go.Proofs.YtgcaofedhhkacaaDoor
open Go.RowKit

theorem seat_make : Tryd.prog.make = some Rows.fnRootsTellRow.make := by kernel_rfl
theorem seat_main : Tryd.prog.mainIs = some (true, Rows.fnRootsTellCard.stood.harness.2.toList) := by kernel_rfl
end Go.Proofs.YtgcaofedhhkacaaDoor
