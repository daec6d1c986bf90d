/-
  Closed facts of the seat's program that every card asks, each reckoned once.
-/
import Derived.Test.YtddjpfgkjijmoaaDoorTie
import Derived.Test.YtddjpfgkjijmoaaDoorCards
import Derived.ProofKit
import Derived.LaidMore
import Derived.SevenTiedAt
namespace Go.Proofs.YtddjpfgkjijmoaaDoor
open Go.RowKit

theorem seat_may : Tryd.prog.mayEnter = true := by kernel_rfl
theorem seat_lifts : Tryd.prog.liftsFinal = Rows.fnSignedRow.lifted := by kernel_rfl
end Go.Proofs.YtddjpfgkjijmoaaDoor
