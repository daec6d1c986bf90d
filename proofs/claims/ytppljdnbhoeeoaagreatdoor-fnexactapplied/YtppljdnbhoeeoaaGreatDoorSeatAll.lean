/-
 Texts that are laid as one: SeatA, SeatB.
-/
import Derived.Test.YtppljdnbhoeeoaaGreatDoorTie
import Derived.Test.YtppljdnbhoeeoaaGreatDoorCards
import Derived.ProofKit
import Derived.LaidMore
namespace Go.Proofs.YtppljdnbhoeeoaaGreatDoor
open Go.RowKit
set_option linter.unusedVariables false
theorem za2j:Tryz.prog.mayEnter=true:=by kernel_rfl
theorem za2k:Tryz.prog.liftsFinal=Rows.fnExactAppliedRow.lifted:=by kernel_rfl
theorem za2l:Tryz.prog.make=some Rows.fnExactAppliedRow.make:=by kernel_rfl
theorem za2m:Tryz.prog.mainIs=some (true,Rows.fnExactAppliedCard.stood.harness.2.toList):=by kernel_rfl
end Go.Proofs.YtppljdnbhoeeoaaGreatDoor
