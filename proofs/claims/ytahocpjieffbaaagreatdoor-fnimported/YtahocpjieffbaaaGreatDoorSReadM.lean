import Derived.Test.YtahocpjieffbaaaGreatDoorIReadAll
import Derived.Test.YtahocpjieffbaaaGreatDoorSNodeAll
import Derived.Laws.AppendOwnNone
import Derived.Deep.Cut
namespace Go.Proofs.YtahocpjieffbaaaGreatDoor
open Go.RowKit
set_option linter.unusedVariables false
theorem four_other {w:World} {b b':Nat} (z0 z1 z2 z3:Value) (h:b'≠b):((((w.setCell ⟨b,0,none⟩ z0).setCell ⟨b,1,none⟩ z1).setCell ⟨b,2,none⟩ z2).setCell ⟨b,3,none⟩ z3).heap[b']? = w.heap[b']? := by
 rw[Below.heap_setCell _ _ _ _ (by simpa using h),Below.heap_setCell _ _ _ _ (by simpa using h),Below.heap_setCell _ _ _ _ (by simpa using h),Below.heap_setCell _ _ _ _ (by simpa using h)]
theorem four_size (w:World) (b:Nat) (z0 z1 z2 z3:Value):((((w.setCell ⟨b,0,none⟩ z0).setCell ⟨b,1,none⟩ z1).setCell ⟨b,2,none⟩ z2).setCell ⟨b,3,none⟩ z3).heap.size=w.heap.size:=by simp[World.setCell]
theorem readNode_S (s:List UInt8) (ts:List (List UInt8)) (h:textsL s=some ts):readNode s=keepN s (nodeOfS ts):=by
 simp only[readNode,h];exact (nodeOf_part s ts).symm
end Go.Proofs.YtahocpjieffbaaaGreatDoor
