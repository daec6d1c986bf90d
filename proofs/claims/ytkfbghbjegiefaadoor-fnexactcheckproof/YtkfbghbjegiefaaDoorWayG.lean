/-
 Contracts: the way from a root to a key, and Get, of the model.
-/
import Derived.Test.YtkfbghbjegiefaaDoorStepAll
import Derived.Test.YtkfbghbjegiefaaDoorIReads
namespace Go.Proofs.YtkfbghbjegiefaaDoor
open Go.RowKit
set_option linter.unusedVariables false
theorem stepL_code (n:NodeL) (p:List UInt8) (c:Int) (v:List UInt8) (h:stepL n p=.ends c v):c=0∨c=1:=by
 unfold stepL at h
 split at h
 · split at h <;> cases h
   · exact .inr rfl
   · exact .inl rfl
 · split at h
   · split at h <;> cases h
     exact .inl rfl
   · split at h
     · split at h <;> cases h
       · exact .inl rfl
       · exact .inr rfl
     · split at h <;> cases h
       exact .inl rfl
end Go.Proofs.YtkfbghbjegiefaaDoor
