/-
 Texts that are laid as one: SeatA, SeatB.
-/
import Derived.Test.YtkagiehbjnfabaaDoorTie
import Derived.Test.YtkagiehbjnfabaaDoorCards
import Derived.ProofKit
import Derived.LaidMore
import Derived.SevenTiedAt
namespace Go.Proofs.YtkagiehbjnfabaaDoor
open Go.RowKit
set_option linter.unusedVariables false
theorem seat_may:Tryd.prog.mayEnter=true:=by kernel_rfl
theorem seat_lifts:Tryd.prog.liftsFinal=Rows.fnCertJudgedRow.lifted:=by kernel_rfl
theorem seat_make:Tryd.prog.make=some Rows.fnCertJudgedRow.make:=by kernel_rfl
theorem seat_main:Tryd.prog.mainIs=some (true,Rows.fnCertJudgedCard.stood.harness.2.toList):=by kernel_rfl
end Go.Proofs.YtkagiehbjnfabaaDoor
