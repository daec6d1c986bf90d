/-
  The library's contract of slices.SortFunc, laid at this program by name and body.
-/
import Derived.Shelf.SlSortCmp.WholeK
import Derived.Shelf.SlGeneric
import Derived.Ground.SlsfProg
import Derived.Test.YtckoglgcjcmmkaaGreatDoorProg
namespace Go.Proofs
open Go.Shelf
end Go.Proofs
