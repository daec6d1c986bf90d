/-
 Contract: the model's ReadNode (written by mksrn.py).
-/
import Derived.Test.YthnddgdnialogaaGreatDoorIReadAll
import Derived.Test.YthnddgdnialogaaGreatDoorSNodeAll
import Derived.Laws.AppendOwnNone
import Derived.Deep.Cut
namespace Go.Proofs.YthnddgdnialogaaGreatDoor
open Go.RowKit
set_option linter.unusedVariables false
end Go.Proofs.YthnddgdnialogaaGreatDoor
