/-
 Texts that are laid as one: MathZ, MathNum, SNum, NumRow.
-/
import Derived.Test.YthnddgdnialogaaGreatDoorMathAll
import Derived.Test.YthnddgdnialogaaGreatDoorMathOp
import Derived.Test.YthnddgdnialogaaGreatDoorMath2
import Derived.Test.YthnddgdnialogaaGreatDoorWrapTxt
import Derived.Test.YthnddgdnialogaaGreatDoorSL1
import Derived.Test.YthnddgdnialogaaGreatDoorIListAll
import Derived.Deep.RegionHeld3
import Derived.Deep.AppendLies
namespace Go.Proofs.YthnddgdnialogaaGreatDoor
open Go.RowKit
set_option linter.unusedVariables false
end Go.Proofs.YthnddgdnialogaaGreatDoor
namespace Go.Proofs.YthnddgdnialogaaGreatDoor
open Go.RowKit
set_option linter.unusedVariables false
end Go.Proofs.YthnddgdnialogaaGreatDoor
namespace Go.Proofs.YthnddgdnialogaaGreatDoor
open Go.RowKit
set_option linter.unusedVariables false
end Go.Proofs.YthnddgdnialogaaGreatDoor
namespace Go.Proofs.YthnddgdnialogaaGreatDoor
open Go.RowKit
set_option linter.unusedVariables false
theorem infoPr : (Tryz.prog.info? 60).map (fun i => (i.zero, i.size, i.bytes)) = some (some (.agg #[.string ⟨#[]⟩, .string ⟨#[]⟩]), 2, 32) := by kernel_rfl
end Go.Proofs.YthnddgdnialogaaGreatDoor
