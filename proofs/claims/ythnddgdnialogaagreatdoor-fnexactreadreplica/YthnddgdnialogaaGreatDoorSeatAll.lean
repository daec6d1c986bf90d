/-
 Texts that are laid as one: SeatA, SeatB.
-/
import Derived.Test.YthnddgdnialogaaGreatDoorTie
import Derived.Test.YthnddgdnialogaaGreatDoorCards
import Derived.ProofKit
import Derived.LaidMore
import Derived.SevenTiedAt
namespace Go.Proofs.YthnddgdnialogaaGreatDoor
open Go.RowKit
theorem seat_may : Tryz.prog.mayEnter = true := by kernel_rfl
theorem seat_lifts : Tryz.prog.liftsFinal = Rows.fnExactReplicaOkRow.lifted := by kernel_rfl
end Go.Proofs.YthnddgdnialogaaGreatDoor
namespace Go.Proofs.YthnddgdnialogaaGreatDoor
open Go.RowKit
theorem seat_make : Tryz.prog.make = some Rows.fnExactReplicaOkRow.make := by kernel_rfl
theorem seat_main : Tryz.prog.mainIs = some (true, Rows.fnExactReplicaOkCard.stood.harness.2.toList) := by kernel_rfl
end Go.Proofs.YthnddgdnialogaaGreatDoor
