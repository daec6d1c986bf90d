/-
  Texts that are laid as one: SeatA, SeatB.
-/
import Derived.Test.YtimgmgmcipgiaaaDoorTie
import Derived.Test.YtimgmgmcipgiaaaDoorCards
import Derived.ProofKit
import Derived.LaidMore
import Derived.SevenTiedAt
namespace Go.Proofs.YtimgmgmcipgiaaaDoor
open Go.RowKit

theorem seat_may : Tryd.prog.mayEnter = true := by kernel_rfl
theorem seat_lifts : Tryd.prog.liftsFinal = Rows.fnExactAgreesRow.lifted := by kernel_rfl
end Go.Proofs.YtimgmgmcipgiaaaDoor
namespace Go.Proofs.YtimgmgmcipgiaaaDoor
open Go.RowKit

theorem seat_make : Tryd.prog.make = some Rows.fnExactAgreesRow.make := by kernel_rfl
theorem seat_main : Tryd.prog.mainIs = some (true, Rows.fnExactAgreesCard.stood.harness.2.toList) := by kernel_rfl
end Go.Proofs.YtimgmgmcipgiaaaDoor
