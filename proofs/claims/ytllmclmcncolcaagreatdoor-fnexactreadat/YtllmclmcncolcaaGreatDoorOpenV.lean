/-
 A vote that came in, opened (written by mkvotel.py).
-/
import Derived.Test.YtllmclmcncolcaaGreatDoorOpen4
namespace Go.Proofs.YtllmclmcncolcaaGreatDoor
open Go.ChangeShapes Go.WideShapes Go.ChangeAt Go.RowKit
end Go.Proofs.YtllmclmcncolcaaGreatDoor
