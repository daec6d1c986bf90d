/-
 Texts that are laid as one: Cmp, SortC, SortW, EqSt, CompM, CompW, Once1.
-/
import Derived.Test.YtckoglgcjcmmkaaGreatDoorMath2
import Derived.Lib.Bytealg
import Derived.Test.YtckoglgcjcmmkaaGreatDoorHashAll
import Derived.Test.YtckoglgcjcmmkaaGreatDoorShelfS
import Derived.Deep.RegionWith
import Derived.Deep.RegionHeld3
import Derived.Lib.SliceRun
import Derived.Laws.StructEq
import Derived.Lib.SlicesCompact
import Derived.Deep.QuietTactic
import Derived.BigQuiet
import Derived.Test.YtckoglgcjcmmkaaGreatDoorSSums
import Derived.Test.YtckoglgcjcmmkaaGreatDoorSMades
namespace Go.Proofs.YtckoglgcjcmmkaaGreatDoor
open Go.RowKit
set_option linter.unusedVariables false
theorem less_iff:∀ (x y:List UInt8),Op.bytesLess x y=true↔x<y
 | [],[]=>by simp[Op.bytesLess]
 | _ :: _,[]=>by simp[Op.bytesLess]
 | [],_ :: _=>by simp[Op.bytesLess]
 | a :: x, b :: y => by
   have:=less_iff x y
   rw[Op.bytesLess,List.cons_lt_cons_iff]
   by_cases h1:a<b <;> by_cases h2:a=b <;> simp_all
theorem tri (a b:List UInt8):a<b∨a=b∨b<a:=by
 by_cases h:a<b
 · exact .inl h
 · by_cases h2:b<a
   · exact .inr (.inr h2)
   · exact .inr (.inl (List.le_antisymm (List.not_lt.1 h2) (List.not_lt.1 h)))
end Go.Proofs.YtckoglgcjcmmkaaGreatDoor
