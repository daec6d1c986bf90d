/-
 Texts that are laid as one: SeatA, SeatB.
-/
import Derived.Test.YtllmclmcncolcaaGreatDoorTie
import Derived.Test.YtllmclmcncolcaaGreatDoorCards
import Derived.ProofKit
import Derived.LaidMore
import Derived.SevenTiedAt
namespace Go.Proofs.YtllmclmcncolcaaGreatDoor
open Go.RowKit
set_option linter.unusedVariables false
theorem seat_may:Tryz.prog.mayEnter=true:=by kernel_rfl
theorem seat_lifts:Tryz.prog.liftsFinal=Rows.fnExactReadAtRow.lifted:=by kernel_rfl
theorem seat_make:Tryz.prog.make=some Rows.fnExactReadAtRow.make:=by kernel_rfl
theorem seat_main:Tryz.prog.mainIs=some (true,Rows.fnExactReadAtCard.stood.harness.2.toList):=by kernel_rfl
end Go.Proofs.YtllmclmcncolcaaGreatDoor
