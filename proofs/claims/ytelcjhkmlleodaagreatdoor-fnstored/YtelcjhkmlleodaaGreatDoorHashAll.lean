import Derived.Test.YtelcjhkmlleodaaGreatDoorTrieAll
import Derived.Test.YtelcjhkmlleodaaGreatDoorSumI
import Derived.Test.YtelcjhkmlleodaaGreatDoorPairs
import Derived.Deep.RegionLawGrows
import Derived.Laws.EntriesVeiled
import Derived.Test.YtelcjhkmlleodaaGreatDoorINodes
import Derived.Deep.QuietTactic
import Derived.BigQuiet
namespace Go.Proofs.YtelcjhkmlleodaaGreatDoor
open Go.RowKit
set_option linter.unusedVariables false
def ncells (ns : List PairL) : List Value := ns.flatMap fun e => [.string ⟨e.1.toArray⟩, .string ⟨e.2.toArray⟩]
theorem ncells_append (a b : List PairL) : ncells (a ++ b) = ncells a ++ ncells b := by simp [ncells]
theorem own_block {w w' : World} {base e size n : Nat} {v : Value} {xs : List Value} (h : w.ownsRow base e size v n xs) (hk : ∀ q, v.ownBlock = some q → w'.heap[q]? = w.heap[q]?) : w'.ownsRow base e size v n xs := by
 refine ⟨h.1, ?_⟩
 rcases h.2 with hn | ⟨g, cap, cur, rfl, hb, hgg, rest⟩
 · exact .inl hn
 · exact .inr ⟨g, cap, cur, rfl, hb, (hk g rfl).trans hgg, rest⟩
end Go.Proofs.YtelcjhkmlleodaaGreatDoor
namespace Go.Proofs.YtelcjhkmlleodaaGreatDoor
open Go.RowKit
set_option linter.unusedVariables false
end Go.Proofs.YtelcjhkmlleodaaGreatDoor
namespace Go.Proofs.YtelcjhkmlleodaaGreatDoor
open Go.RowKit
set_option linter.unusedVariables false
theorem small_cut9 {n : Nat} {es : List PairL} (h : smallE es) : smallE (cutE n es) := by
 intro e he
 obtain ⟨x, hx, rfl⟩ := List.mem_map.1 he
 have := h x hx
 exact ⟨by simp only [List.length_drop]; omega, this.2⟩
theorem end_le {es : List PairL} (h : smallE es) : (endV es).length ≤ 60 := by
 have := endV_len es (fun j hj => (h _ (List.getElem_mem hj)).2) es.length (Nat.le_refl _)
 rwa [List.take_length] at this
end Go.Proofs.YtelcjhkmlleodaaGreatDoor
namespace Go.Proofs.YtelcjhkmlleodaaGreatDoor
open Go.RowKit
set_option linter.unusedVariables false
end Go.Proofs.YtelcjhkmlleodaaGreatDoor
