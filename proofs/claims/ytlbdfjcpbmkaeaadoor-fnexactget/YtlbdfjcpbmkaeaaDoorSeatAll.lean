/-
  Texts that are laid as one: SeatA, SeatB.
-/
import Derived.Test.YtlbdfjcpbmkaeaaDoorTie
import Derived.Test.YtlbdfjcpbmkaeaaDoorCards
import Derived.ProofKit
import Derived.LaidMore
import Derived.SevenTiedAt
namespace Go.Proofs.YtlbdfjcpbmkaeaaDoor
open Go.RowKit

theorem seat_may : Tryd.prog.mayEnter = true := by kernel_rfl
theorem seat_lifts : Tryd.prog.liftsFinal = Rows.fnExactGetRow.lifted := by kernel_rfl
end Go.Proofs.YtlbdfjcpbmkaeaaDoor
namespace Go.Proofs.YtlbdfjcpbmkaeaaDoor
open Go.RowKit

theorem seat_make : Tryd.prog.make = some Rows.fnExactGetRow.make := by kernel_rfl
theorem seat_main : Tryd.prog.mainIs = some (true, Rows.fnExactGetCard.stood.harness.2.toList) := by kernel_rfl
end Go.Proofs.YtlbdfjcpbmkaeaaDoor
