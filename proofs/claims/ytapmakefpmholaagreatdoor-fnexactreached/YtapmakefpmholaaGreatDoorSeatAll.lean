/-
 Texts that are laid as one: SeatA, SeatB.
-/
import Derived.Test.YtapmakefpmholaaGreatDoorTie
import Derived.Test.YtapmakefpmholaaGreatDoorCards
import Derived.ProofKit
import Derived.LaidMore
import Derived.SevenTiedAt
namespace Go.Proofs.YtapmakefpmholaaGreatDoor
open Go.RowKit
theorem seat_may : Tryz.prog.mayEnter = true := by kernel_rfl
theorem seat_lifts : Tryz.prog.liftsFinal = Rows.fnExactStoreAddRow.lifted := by kernel_rfl
end Go.Proofs.YtapmakefpmholaaGreatDoor
namespace Go.Proofs.YtapmakefpmholaaGreatDoor
open Go.RowKit
theorem seat_make : Tryz.prog.make = some Rows.fnExactStoreAddRow.make := by kernel_rfl
theorem seat_main : Tryz.prog.mainIs = some (true, Rows.fnExactStoreAddCard.stood.harness.2.toList) := by kernel_rfl
end Go.Proofs.YtapmakefpmholaaGreatDoor
