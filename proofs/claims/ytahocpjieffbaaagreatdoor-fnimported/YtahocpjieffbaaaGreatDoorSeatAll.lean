/-
 Texts that are laid as one: SeatA, SeatB.
-/
import Derived.Test.YtahocpjieffbaaaGreatDoorTie
import Derived.Test.YtahocpjieffbaaaGreatDoorCards
import Derived.ProofKit
import Derived.LaidMore
import Derived.SevenTiedAt
namespace Go.Proofs.YtahocpjieffbaaaGreatDoor
open Go.RowKit
set_option linter.unusedVariables false
theorem seat_may:Tryz.prog.mayEnter=true:=by kernel_rfl
theorem seat_lifts:Tryz.prog.liftsFinal=Rows.fnImportedRow.lifted:=by kernel_rfl
theorem seat_make:Tryz.prog.make=some Rows.fnImportedRow.make:=by kernel_rfl
theorem seat_main:Tryz.prog.mainIs=some (true,Rows.fnImportedCard.stood.harness.2.toList):=by kernel_rfl
end Go.Proofs.YtahocpjieffbaaaGreatDoor
