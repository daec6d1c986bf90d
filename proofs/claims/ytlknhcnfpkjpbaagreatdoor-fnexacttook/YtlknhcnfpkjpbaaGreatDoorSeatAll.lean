/-
  Texts that are laid as one: SeatA, SeatB.
-/
import Derived.Test.YtlknhcnfpkjpbaaGreatDoorTie
import Derived.Test.YtlknhcnfpkjpbaaGreatDoorCards
import Derived.ProofKit
import Derived.LaidMore
import Derived.SevenTiedAt
namespace Go.Proofs.YtlknhcnfpkjpbaaGreatDoor
open Go.RowKit

theorem seat_may : Tryz.prog.mayEnter = true := by kernel_rfl
theorem seat_lifts : Tryz.prog.liftsFinal = Rows.fnExactTookRow.lifted := by kernel_rfl
end Go.Proofs.YtlknhcnfpkjpbaaGreatDoor
namespace Go.Proofs.YtlknhcnfpkjpbaaGreatDoor
open Go.RowKit

theorem seat_make : Tryz.prog.make = some Rows.fnExactTookRow.make := by kernel_rfl
theorem seat_main : Tryz.prog.mainIs = some (true, Rows.fnExactTookCard.stood.harness.2.toList) := by kernel_rfl
end Go.Proofs.YtlknhcnfpkjpbaaGreatDoor
