/-
  Texts that are laid as one: SeatA, SeatB.
-/
import Derived.Test.YtldkilpndcafjaaDoorTie
import Derived.Test.YtldkilpndcafjaaDoorCards
import Derived.ProofKit
import Derived.LaidMore
import Derived.SevenTiedAt
namespace Go.Proofs.YtldkilpndcafjaaDoor
open Go.RowKit

theorem seat_may : Tryd.prog.mayEnter = true := by kernel_rfl
theorem seat_lifts : Tryd.prog.liftsFinal = Rows.fnRootsTellRow.lifted := by kernel_rfl
end Go.Proofs.YtldkilpndcafjaaDoor
namespace Go.Proofs.YtldkilpndcafjaaDoor
open Go.RowKit

theorem seat_make : Tryd.prog.make = some Rows.fnRootsTellRow.make := by kernel_rfl
theorem seat_main : Tryd.prog.mainIs = some (true, Rows.fnRootsTellCard.stood.harness.2.toList) := by kernel_rfl
end Go.Proofs.YtldkilpndcafjaaDoor
