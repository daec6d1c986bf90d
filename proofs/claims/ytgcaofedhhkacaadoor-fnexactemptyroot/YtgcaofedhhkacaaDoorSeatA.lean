/-
  Closed facts of the seat's program that every card asks, each reckoned once.
-/
import Derived.Test.YtgcaofedhhkacaaDoorTie
import Derived.Test.YtgcaofedhhkacaaDoorCards
import Derived.ProofKit
import Derived.LaidMore
import Derived.SevenTiedAt
namespace Go.Proofs.YtgcaofedhhkacaaDoor
open Go.RowKit

theorem seat_may : Tryd.prog.mayEnter = true := by kernel_rfl
theorem seat_lifts : Tryd.prog.liftsFinal = Rows.fnRootsTellRow.lifted := by kernel_rfl
end Go.Proofs.YtgcaofedhhkacaaDoor
