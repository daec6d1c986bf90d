/-
 Texts that are laid as one: SeatA, SeatB.
-/
import Derived.Test.YtcoahmldmodmlaaGreatDoorTie
import Derived.Test.YtcoahmldmodmlaaGreatDoorCards
import Derived.ProofKit
import Derived.LaidMore
import Derived.SevenTiedAt
namespace Go.Proofs.YtcoahmldmodmlaaGreatDoor
open Go.RowKit
set_option linter.unusedVariables false
theorem seat_may:Tryz.prog.mayEnter=true:=by kernel_rfl
theorem seat_lifts:Tryz.prog.liftsFinal=Rows.fnTookRow.lifted:=by kernel_rfl
theorem seat_make:Tryz.prog.make=some Rows.fnTookRow.make:=by kernel_rfl
theorem seat_main:Tryz.prog.mainIs=some (true,Rows.fnTookCard.stood.harness.2.toList):=by kernel_rfl
end Go.Proofs.YtcoahmldmodmlaaGreatDoor
