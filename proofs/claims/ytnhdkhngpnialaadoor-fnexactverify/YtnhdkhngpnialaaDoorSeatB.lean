/-
  Closed facts of the seat's program that every card asks, each reckoned once.
-/
import Derived.Test.YtnhdkhngpnialaaDoorTie
import Derived.Test.YtnhdkhngpnialaaDoorCards
import Derived.ProofKit
import Derived.LaidMore
import Derived.SevenTiedAt
namespace Go.Proofs.YtnhdkhngpnialaaDoor
open Go.RowKit

theorem seat_make : Tryd.prog.make = some Rows.fnDigitsRow.make := by kernel_rfl
theorem seat_main : Tryd.prog.mainIs = some (true, Rows.fnDigitsCard.stood.harness.2.toList) := by kernel_rfl
end Go.Proofs.YtnhdkhngpnialaaDoor
