/-
  Texts that are laid as one: SeatA, SeatB.
-/
import Derived.Test.YtjlkeoocddianaaDoorTie
import Derived.Test.YtjlkeoocddianaaDoorCards
import Derived.ProofKit
import Derived.LaidMore
import Derived.SevenTiedAt
namespace Go.Proofs.YtjlkeoocddianaaDoor
open Go.RowKit

theorem seat_may : Tryd.prog.mayEnter = true := by kernel_rfl
theorem seat_lifts : Tryd.prog.liftsFinal = Rows.fnExactReplicaNewRow.lifted := by kernel_rfl
end Go.Proofs.YtjlkeoocddianaaDoor
namespace Go.Proofs.YtjlkeoocddianaaDoor
open Go.RowKit

theorem seat_make : Tryd.prog.make = some Rows.fnExactReplicaNewRow.make := by kernel_rfl
theorem seat_main : Tryd.prog.mainIs = some (true, Rows.fnExactReplicaNewCard.stood.harness.2.toList) := by kernel_rfl
end Go.Proofs.YtjlkeoocddianaaDoor
