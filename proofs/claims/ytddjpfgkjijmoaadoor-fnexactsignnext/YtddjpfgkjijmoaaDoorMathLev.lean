/-
  The levels of the key tree, on lists; rows that the call owns lie apart where their elements are of unlike types.
-/
import Derived.Test.YtddjpfgkjijmoaaDoorMathOnce
namespace Go.Proofs.YtddjpfgkjijmoaaDoor
open Go.RowKit
set_option linter.unusedVariables false

/-- The first j pairs, each put together. -/
def pairsTo (L : List (List UInt8)) (j : Nat) : List (List UInt8) := (List.range j).map fun k => nodeL (L.getD (2 * k) []) (L.getD (2 * k + 1) [])
theorem pairsTo_snoc (L : List (List UInt8)) (j : Nat) : pairsTo L (j + 1) = pairsTo L j ++ [nodeL (L.getD (2 * j) []) (L.getD (2 * j + 1) [])] := by simp [pairsTo, List.range_succ]
theorem pairsTo_length (L : List (List UInt8)) (j : Nat) : (pairsTo L j).length = j := by simp [pairsTo]
def keysTo (seed : List UInt8) (j : Nat) : List (List UInt8) := (List.range j).map fun k => keyL seed k
theorem keysTo_snoc (seed : List UInt8) (j : Nat) : keysTo seed (j + 1) = keysTo seed j ++ [keyL seed j] := by simp [keysTo, List.range_succ]
theorem keysTo_four (seed : List UInt8) : keysTo seed 4 = level0 seed := by simp [keysTo, level0, List.range_succ]
theorem pairs_level1 (seed : List UInt8) : pairsTo (level0 seed) 2 = level1 seed := by simp [pairsTo, level0, level1, List.range_succ]
theorem pairs_level2 (seed : List UInt8) : pairsTo (level1 seed) 1 = [rootL seed] := by simp [pairsTo, level1, rootL, List.range_succ]
theorem level0_32 (seed : List UInt8) (h : seed.length = 32) (k : Nat) (hk : k < 4) : ((level0 seed).getD k []).length = 32 := by
  match k, hk with
  | 0, _ => simp only [level0, List.getD_cons_zero]; exact keyL_len seed 0 h
  | 1, _ => simp only [level0, List.getD_cons_zero, List.getD_cons_succ]; exact keyL_len seed 1 h
  | 2, _ => simp only [level0, List.getD_cons_zero, List.getD_cons_succ]; exact keyL_len seed 2 h
  | 3, _ => simp only [level0, List.getD_cons_zero, List.getD_cons_succ]; exact keyL_len seed 3 h
theorem level1_32 (seed : List UInt8) (h : seed.length = 32) (k : Nat) (hk : k < 2) : ((level1 seed).getD k []).length = 32 := by
  match k, hk with
  | 0, _ => simp only [level1, List.getD_cons_zero]; exact nodeL_len _ _ (keyL_len seed 0 h) (keyL_len seed 1 h)
  | 1, _ => simp only [level1, List.getD_cons_zero, List.getD_cons_succ]; exact nodeL_len _ _ (keyL_len seed 2 h) (keyL_len seed 3 h)
theorem row_at {w : World} {b e g n cap : Nat} {L : List (List UInt8)} (h : w.ownsRow b e 1 (.slice (some ⟨g, 0, none⟩) n cap) n (scells L)) (hL : L.length = n) (k : Nat) (hk : k < n) : w.cell? ⟨g, k, none⟩ = some (.string ⟨(L.getD k []).toArray⟩) := by
  rw [h.cellAt k (by omega), scells_at L k (by omega), List.getD_eq_getElem?_getD, List.getElem?_eq_getElem (by omega)]; rfl

theorem own_ne {w : World} {b1 b2 e1 e2 g1 g2 n1 n2 c1 c2 : Nat} {xs ys : List Value} (h1 : w.ownsRow b1 e1 1 (.slice (some ⟨g1, 0, none⟩) n1 c1) n1 xs) (h2 : w.ownsRow b2 e2 1 (.slice (some ⟨g2, 0, none⟩) n2 c2) n2 ys) (he : e1 ≠ e2) : g1 ≠ g2 := by
  rcases h1.2 with ⟨h, _⟩ | ⟨a, _, cur, h, _, hh, _⟩
  · cases h
  · cases h
    rcases h2.2 with ⟨h, _⟩ | ⟨a', _, cur', h, _, hh', _⟩
    · cases h
    · cases h
      intro e
      subst e
      rw [hh] at hh'
      simp at hh'
      exact he hh'.2
end Go.Proofs.YtddjpfgkjijmoaaDoor
