/-
 Texts that are laid as one: SeatA, SeatB.
-/
import Derived.Test.YtiadimhoolekbaaGreatDoorTie
import Derived.Test.YtiadimhoolekbaaGreatDoorCards
import Derived.ProofKit
import Derived.LaidMore
namespace Go.Proofs.YtiadimhoolekbaaGreatDoor
open Go.RowKit
set_option linter.unusedVariables false
theorem za3k:Tryz.prog.mayEnter=true:=by kernel_rfl
theorem za3l:Tryz.prog.liftsFinal=Rows.fnOpsDoneRow.lifted:=by kernel_rfl
theorem za3m:Tryz.prog.make=some Rows.fnOpsDoneRow.make:=by kernel_rfl
theorem za3n:Tryz.prog.mainIs=some (true,Rows.fnOpsDoneCard.stood.harness.2.toList):=by kernel_rfl
end Go.Proofs.YtiadimhoolekbaaGreatDoor
