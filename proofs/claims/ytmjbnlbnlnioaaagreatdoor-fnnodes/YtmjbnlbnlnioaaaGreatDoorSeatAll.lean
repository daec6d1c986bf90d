/-
 Texts that are laid as one: SeatA, SeatB.
-/
import Derived.Test.YtmjbnlbnlnioaaaGreatDoorTie
import Derived.Test.YtmjbnlbnlnioaaaGreatDoorCards
import Derived.ProofKit
import Derived.LaidMore
import Derived.SevenTiedAt
namespace Go.Proofs.YtmjbnlbnlnioaaaGreatDoor
open Go.RowKit
theorem seat_may : Tryz.prog.mayEnter = true := by kernel_rfl
theorem seat_lifts : Tryz.prog.liftsFinal = Rows.fnNodesRow.lifted := by kernel_rfl
end Go.Proofs.YtmjbnlbnlnioaaaGreatDoor
namespace Go.Proofs.YtmjbnlbnlnioaaaGreatDoor
open Go.RowKit
theorem seat_make : Tryz.prog.make = some Rows.fnNodesRow.make := by kernel_rfl
theorem seat_main : Tryz.prog.mainIs = some (true, Rows.fnNodesCard.stood.harness.2.toList) := by kernel_rfl
end Go.Proofs.YtmjbnlbnlnioaaaGreatDoor
