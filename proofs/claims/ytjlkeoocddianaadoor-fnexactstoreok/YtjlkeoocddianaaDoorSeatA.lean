/-
  Closed facts of the seat's program that every card asks, each reckoned once.
-/
import Derived.Test.YtjlkeoocddianaaDoorTie
import Derived.Test.YtjlkeoocddianaaDoorCards
import Derived.ProofKit
import Derived.LaidMore
import Derived.SevenTiedAt
namespace Go.Proofs.YtjlkeoocddianaaDoor
open Go.RowKit

theorem seat_may : Tryd.prog.mayEnter = true := by kernel_rfl
theorem seat_lifts : Tryd.prog.liftsFinal = Rows.fnExactReplicaNewRow.lifted := by kernel_rfl
end Go.Proofs.YtjlkeoocddianaaDoor
