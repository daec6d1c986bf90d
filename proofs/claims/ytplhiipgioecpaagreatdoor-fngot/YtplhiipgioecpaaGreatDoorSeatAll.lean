/-
 Texts that are laid as one: SeatA, SeatB.
-/
import Derived.Test.YtplhiipgioecpaaGreatDoorTie
import Derived.Test.YtplhiipgioecpaaGreatDoorCards
import Derived.ProofKit
import Derived.LaidMore
import Derived.SevenTiedAt
namespace Go.Proofs.YtplhiipgioecpaaGreatDoor
open Go.RowKit
theorem seat_may : Tryz.prog.mayEnter = true := by kernel_rfl
theorem seat_lifts : Tryz.prog.liftsFinal = Rows.fnGotRow.lifted := by kernel_rfl
end Go.Proofs.YtplhiipgioecpaaGreatDoor
namespace Go.Proofs.YtplhiipgioecpaaGreatDoor
open Go.RowKit
theorem seat_make : Tryz.prog.make = some Rows.fnGotRow.make := by kernel_rfl
theorem seat_main : Tryz.prog.mainIs = some (true, Rows.fnGotCard.stood.harness.2.toList) := by kernel_rfl
end Go.Proofs.YtplhiipgioecpaaGreatDoor
