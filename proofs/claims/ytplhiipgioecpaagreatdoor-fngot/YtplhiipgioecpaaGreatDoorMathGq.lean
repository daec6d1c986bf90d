/-
 What Get finds in the nodes of pairs, on lists.
-/
import Derived.Test.YtplhiipgioecpaaGreatDoorMathGw
import Derived.Test.YtplhiipgioecpaaGreatDoorBackM
namespace Go.Proofs.YtplhiipgioecpaaGreatDoor
open Go.RowKit
set_option linter.unusedVariables false
theorem got_key {ps : List PairL} (h : rootOk ps = true) (key : List UInt8) (hk : key.length ≤ 12) : getV (nodesR ps) (rootR ps) key = (findL ps key).getD [] ∧ getC (nodesR ps) (rootR ps) key = if (findL ps key).getD [] = [] then 0 else 1 := get_at hk (pairs_back h)
theorem got_at {ps : List PairL} (h : rootOk ps = true) (j : Nat) (hj : j < ps.length) : ps[j].1.length ≤ 12 ∧ getV (nodesR ps) (rootR ps) ps[j].1 = ps[j].2 ∧ getC (nodesR ps) (rootR ps) ps[j].1 = 1 := by
 have hp : pairsOkL ps = true := by simp only [rootOk, Bool.and_eq_true] at h; exact h.1
 have ho := (pairsOk_of ps hp).2 j hj
 simp only [okAt, Bool.and_eq_true, decide_eq_true_eq] at ho
 rw [keyAt_lt _ _ hj, valAt_lt _ _ hj] at ho
 obtain ⟨⟨⟨h1, h2⟩, _⟩, _⟩ := ho
 have hf : findL ps ps[j].1 = some ps[j].2 := find_mem ps (pairs_lt hp) _ (List.getElem_mem _)
 obtain ⟨g1, g2⟩ := got_key h _ h1
 rw [hf] at g1 g2
 refine ⟨h1, g1, ?_⟩
 rw [g2, if_neg]
 show ps[j].2 ≠ []
 intro e
 rw [e] at h2
 simp at h2
end Go.Proofs.YtplhiipgioecpaaGreatDoor
