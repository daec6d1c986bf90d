/-
 Contract: the model's ReadNode (written by mksrn.py).
-/
import Derived.Test.YtmjbnlbnlnioaaaGreatDoorIReadAll
import Derived.Test.YtmjbnlbnlnioaaaGreatDoorSNodeAll
import Derived.Laws.AppendOwnNone
import Derived.Deep.Cut
namespace Go.Proofs.YtmjbnlbnlnioaaaGreatDoor
open Go.RowKit
set_option linter.unusedVariables false
end Go.Proofs.YtmjbnlbnlnioaaaGreatDoor
