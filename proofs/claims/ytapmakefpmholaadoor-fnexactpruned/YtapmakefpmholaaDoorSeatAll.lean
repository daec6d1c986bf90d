/-
 Texts that are laid as one: SeatA, SeatB.
-/
import Derived.Test.YtapmakefpmholaaDoorTie
import Derived.Test.YtapmakefpmholaaDoorCards
import Derived.ProofKit
import Derived.LaidMore
import Derived.SevenTiedAt
namespace Go.Proofs.YtapmakefpmholaaDoor
open Go.RowKit
theorem seat_may : Tryd.prog.mayEnter = true := by kernel_rfl
theorem seat_lifts : Tryd.prog.liftsFinal = Rows.fnExactPrunedRow.lifted := by kernel_rfl
end Go.Proofs.YtapmakefpmholaaDoor
namespace Go.Proofs.YtapmakefpmholaaDoor
open Go.RowKit
theorem seat_make : Tryd.prog.make = some Rows.fnExactPrunedRow.make := by kernel_rfl
theorem seat_main : Tryd.prog.mainIs = some (true, Rows.fnExactPrunedCard.stood.harness.2.toList) := by kernel_rfl
end Go.Proofs.YtapmakefpmholaaDoor
