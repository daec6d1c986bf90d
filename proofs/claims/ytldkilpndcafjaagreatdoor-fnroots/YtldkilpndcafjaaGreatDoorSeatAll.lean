/-
  Texts that are laid as one: SeatA, SeatB.
-/
import Derived.Test.YtldkilpndcafjaaGreatDoorTie
import Derived.Test.YtldkilpndcafjaaGreatDoorCards
import Derived.ProofKit
import Derived.LaidMore
import Derived.SevenTiedAt
namespace Go.Proofs.YtldkilpndcafjaaGreatDoor
open Go.RowKit

theorem seat_may : Tryz.prog.mayEnter = true := by kernel_rfl
theorem seat_lifts : Tryz.prog.liftsFinal = Rows.fnRootsRow.lifted := by kernel_rfl
end Go.Proofs.YtldkilpndcafjaaGreatDoor
namespace Go.Proofs.YtldkilpndcafjaaGreatDoor
open Go.RowKit

theorem seat_make : Tryz.prog.make = some Rows.fnRootsRow.make := by kernel_rfl
theorem seat_main : Tryz.prog.mainIs = some (true, Rows.fnRootsCard.stood.harness.2.toList) := by kernel_rfl
end Go.Proofs.YtldkilpndcafjaaGreatDoor
