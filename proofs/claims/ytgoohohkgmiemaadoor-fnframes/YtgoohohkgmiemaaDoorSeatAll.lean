/-
  Texts that are laid as one: SeatA, SeatB.
-/
import Derived.Test.YtgoohohkgmiemaaDoorTie
import Derived.Test.YtgoohohkgmiemaaDoorCards
import Derived.ProofKit
import Derived.LaidMore
import Derived.SevenTiedAt
namespace Go.Proofs.YtgoohohkgmiemaaDoor
open Go.RowKit

theorem seat_may : Tryd.prog.mayEnter = true := by kernel_rfl
theorem seat_lifts : Tryd.prog.liftsFinal = Rows.fnFramesRow.lifted := by kernel_rfl
end Go.Proofs.YtgoohohkgmiemaaDoor
namespace Go.Proofs.YtgoohohkgmiemaaDoor
open Go.RowKit

theorem seat_make : Tryd.prog.make = some Rows.fnFramesRow.make := by kernel_rfl
theorem seat_main : Tryd.prog.mainIs = some (true, Rows.fnFramesCard.stood.harness.2.toList) := by kernel_rfl
end Go.Proofs.YtgoohohkgmiemaaDoor
