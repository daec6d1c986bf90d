/-
 Texts that are laid as one: SeatA, SeatB.
-/
import Derived.Test.YtbdboicobkcggaaGreatDoorTie
import Derived.Test.YtbdboicobkcggaaGreatDoorCards
import Derived.ProofKit
import Derived.LaidMore
import Derived.SevenTiedAt
namespace Go.Proofs.YtbdboicobkcggaaGreatDoor
open Go.RowKit
set_option linter.unusedVariables false
theorem seat_may:Tryz.prog.mayEnter=true:=by kernel_rfl
theorem seat_lifts:Tryz.prog.liftsFinal=Rows.fnPutRow.lifted:=by kernel_rfl
theorem seat_make:Tryz.prog.make=some Rows.fnPutRow.make:=by kernel_rfl
theorem seat_main:Tryz.prog.mainIs=some (true,Rows.fnPutCard.stood.harness.2.toList):=by kernel_rfl
end Go.Proofs.YtbdboicobkcggaaGreatDoor
