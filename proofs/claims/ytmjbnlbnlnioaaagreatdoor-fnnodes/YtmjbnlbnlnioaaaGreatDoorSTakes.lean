/-
 Texts that are laid as one: STake, STakeL, STakeAll, SItems.
-/
import Derived.Test.YtmjbnlbnlnioaaaGreatDoorMath2
import Derived.Test.YtmjbnlbnlnioaaaGreatDoorMathAll
import Derived.Deep.QuietTactic
import Derived.BigQuiet
namespace Go.Proofs.YtmjbnlbnlnioaaaGreatDoor
open Go.RowKit
set_option linter.unusedVariables false
end Go.Proofs.YtmjbnlbnlnioaaaGreatDoor
namespace Go.Proofs.YtmjbnlbnlnioaaaGreatDoor
open Go.RowKit
set_option linter.unusedVariables false
end Go.Proofs.YtmjbnlbnlnioaaaGreatDoor
namespace Go.Proofs.YtmjbnlbnlnioaaaGreatDoor
open Go.RowKit
set_option linter.unusedVariables false
end Go.Proofs.YtmjbnlbnlnioaaaGreatDoor
namespace Go.Proofs.YtmjbnlbnlnioaaaGreatDoor
open Go.RowKit
set_option linter.unusedVariables false
end Go.Proofs.YtmjbnlbnlnioaaaGreatDoor
