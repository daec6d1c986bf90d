/-
 Texts that are laid as one: SeatA, SeatB.
-/
import Derived.Test.YtelcjhkmlleodaaGreatDoorTie
import Derived.Test.YtelcjhkmlleodaaGreatDoorCards
import Derived.ProofKit
import Derived.LaidMore
import Derived.SevenTiedAt
namespace Go.Proofs.YtelcjhkmlleodaaGreatDoor
open Go.RowKit
theorem seat_may : Tryz.prog.mayEnter = true := by kernel_rfl
theorem seat_lifts : Tryz.prog.liftsFinal = Rows.fnStoredRow.lifted := by kernel_rfl
end Go.Proofs.YtelcjhkmlleodaaGreatDoor
namespace Go.Proofs.YtelcjhkmlleodaaGreatDoor
open Go.RowKit
theorem seat_make : Tryz.prog.make = some Rows.fnStoredRow.make := by kernel_rfl
theorem seat_main : Tryz.prog.mainIs = some (true, Rows.fnStoredCard.stood.harness.2.toList) := by kernel_rfl
end Go.Proofs.YtelcjhkmlleodaaGreatDoor
