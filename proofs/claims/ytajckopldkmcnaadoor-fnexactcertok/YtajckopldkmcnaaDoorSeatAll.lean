/-
  Texts that are laid as one: SeatA, SeatB.
-/
import Derived.Test.YtajckopldkmcnaaDoorTie
import Derived.Test.YtajckopldkmcnaaDoorCards
import Derived.ProofKit
import Derived.LaidMore
import Derived.SevenTiedAt
namespace Go.Proofs.YtajckopldkmcnaaDoor
open Go.RowKit

theorem seat_may : Tryd.prog.mayEnter = true := by kernel_rfl
theorem seat_lifts : Tryd.prog.liftsFinal = Rows.fnExactCheckTextRow.lifted := by kernel_rfl
end Go.Proofs.YtajckopldkmcnaaDoor
namespace Go.Proofs.YtajckopldkmcnaaDoor
open Go.RowKit

theorem seat_make : Tryd.prog.make = some Rows.fnExactCheckTextRow.make := by kernel_rfl
theorem seat_main : Tryd.prog.mainIs = some (true, Rows.fnExactCheckTextCard.stood.harness.2.toList) := by kernel_rfl
end Go.Proofs.YtajckopldkmcnaaDoor
