/-
 Texts that are laid as one: TrieT, TrieO.
-/
import Derived.Test.YtelcjhkmlleodaaGreatDoorIReads
import Derived.Test.YtelcjhkmlleodaaGreatDoorTrieB
import Derived.Test.YtelcjhkmlleodaaGreatDoorHexAll
import Derived.Deep.RegionLawGrows
import Derived.Laws.EntriesVeiled
namespace Go.Proofs.YtelcjhkmlleodaaGreatDoor
open Go.RowKit
set_option linter.unusedVariables false
end Go.Proofs.YtelcjhkmlleodaaGreatDoor
namespace Go.Proofs.YtelcjhkmlleodaaGreatDoor
open Go.RowKit
set_option linter.unusedVariables false
theorem one_set {w : World} {b : Nat} {u v : Value} {t : TypeId} (h : w.heap[b]? = some (.cells #[u] t (0, 0))) : (w.setCell ⟨b, 0, none⟩ v).heap[b]? = some (.cells #[v] t (0, 0)) := by
 have hlt := lt_of_block h
 have h' : w.heap[b] = .cells #[u] t (0, 0) := by simpa [Array.getElem?_eq_getElem hlt] using h
 show (w.heap.modify b _)[b]? = _
 rw [Array.getElem?_eq_getElem (by simpa using hlt), Array.getElem_modify_self, h']
 rfl
end Go.Proofs.YtelcjhkmlleodaaGreatDoor
