/-
 The closure that grows tries, at a branch.
-/
import Derived.Test.YtelcjhkmlleodaaGreatDoorTrie
namespace Go.Proofs.YtelcjhkmlleodaaGreatDoor
open Go.RowKit
set_option linter.unusedVariables false
theorem quad_setB {w : World} {b : Nat} {u v x y z : Value} {t : TypeId} (h : w.heap[b]? = some (.cells #[u, v, x, y] t (0, 0))) : (w.setCell ⟨b, 3, none⟩ z).heap[b]? = some (.cells #[u, v, x, z] t (0, 0)) := by
 have hlt := lt_of_block h
 have h' : w.heap[b] = .cells #[u, v, x, y] t (0, 0) := by simpa [Array.getElem?_eq_getElem hlt] using h
 show (w.heap.modify b _)[b]? = _
 rw [Array.getElem?_eq_getElem (by simpa using hlt), Array.getElem_modify_self, h']
 rfl
end Go.Proofs.YtelcjhkmlleodaaGreatDoor
