/-
 Texts that are laid as one: SeatA, SeatB.
-/
import Derived.Test.YthbfhofogoagdaaGreatDoorTie
import Derived.Test.YthbfhofogoagdaaGreatDoorCards
import Derived.ProofKit
import Derived.LaidMore
import Derived.SevenTiedAt
namespace Go.Proofs.YthbfhofogoagdaaGreatDoor
open Go.RowKit
set_option linter.unusedVariables false
theorem seat_may:Tryz.prog.mayEnter=true:=by kernel_rfl
theorem seat_lifts:Tryz.prog.liftsFinal=Rows.fnExactApplyStoreRow.lifted:=by kernel_rfl
theorem seat_make:Tryz.prog.make=some Rows.fnExactApplyStoreRow.make:=by kernel_rfl
theorem seat_main:Tryz.prog.mainIs=some (true,Rows.fnExactApplyStoreCard.stood.harness.2.toList):=by kernel_rfl
end Go.Proofs.YthbfhofogoagdaaGreatDoor
