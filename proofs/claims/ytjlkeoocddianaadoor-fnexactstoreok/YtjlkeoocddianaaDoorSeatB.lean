/-
  Closed facts of the seat's program that every card asks, each reckoned once.
-/
import Derived.Test.YtjlkeoocddianaaDoorTie
import Derived.Test.YtjlkeoocddianaaDoorCards
import Derived.ProofKit
import Derived.LaidMore
import Derived.SevenTiedAt
namespace Go.Proofs.YtjlkeoocddianaaDoor
open Go.RowKit

theorem seat_make : Tryd.prog.make = some Rows.fnExactReplicaNewRow.make := by kernel_rfl
theorem seat_main : Tryd.prog.mainIs = some (true, Rows.fnExactReplicaNewCard.stood.harness.2.toList) := by kernel_rfl
end Go.Proofs.YtjlkeoocddianaaDoor
