/-
  Pairs with another value for a key, by the key's place.
-/
import Derived.Test.YtgcaofedhhkacaaISet
namespace Go.Proofs.Ytgcaofedhhkacaa
open Go.RowKit
set_option linter.unusedVariables false

def insL (k v : List UInt8) : List PairL := if v = [] then [] else [(k, v)]
def skipN (ps : List PairL) (k : List UInt8) (p : Nat) : Nat := if p < ps.length ∧ keyAt ps p = k then p + 1 else p
/-- What the program puts together. -/
def putL (ps : List PairL) (k v : List UInt8) (p : Nat) : List PairL := ps.take p ++ insL k v ++ ps.drop (skipN ps k p)

theorem less_ne {a b : List UInt8} (h : Op.bytesLess a b = true) : a ≠ b := fun e => by rw [e, bytesLess_irrefl] at h; cases h
theorem fold_ahead (ps : List PairL) (k v : List UInt8) (p : Nat) (h : placeIs ps k p) : ∀ j, j ≤ p → setFold k v (ps.take j) = (ps.take j, decide (v = []))
  | 0, _ => by rw [setFold_zero]; simp
  | j + 1, hj => by
    have hp := h.1
    have hjl : j < ps.length := by omega
    have hl := h.2.1 j (by omega)
    rw [keyAt_lt ps j hjl] at hl
    rw [setFold_snoc k v ps j hjl, fold_ahead ps k v p h j (by omega), step_less k v _ _ ps[j] (.inr hl), if_neg (less_ne hl), take_snocP ps j hjl]
theorem fold_behind (ps : List PairL) (k v : List UInt8) (p : Nat) (hr : rising ps) (h : placeIs ps k p) (hp : p < ps.length) : ∀ m, p + 1 + m ≤ ps.length → setFold k v (ps.take (p + 1 + m)) = (ps.take p ++ insL k v ++ (ps.take (p + 1 + m)).drop (skipN ps k p), true)
  | 0, hm => by
    have hl := h.2.2 p (Nat.le_refl _) hp
    have hk := keyAt_lt ps p hp
    rw [hk] at hl
    rw [Nat.add_zero, setFold_snoc k v ps p hp, fold_ahead ps k v p h p (Nat.le_refl _)]
    have hd : (ps.take (p + 1)).drop (skipN ps k p) = if ps[p].1 = k then [] else [ps[p]] := by
      by_cases e : ps[p].1 = k
      · rw [if_pos e, skipN, if_pos ⟨hp, by rw [hk]; exact e⟩]
        exact List.drop_eq_nil_of_le (by simp; omega)
      · rw [if_neg e, skipN, if_neg (fun hh => e (by rw [← hk]; exact hh.2)), take_snocP ps p hp, List.drop_append_of_le_length (by simp; omega)]
        simp
    rw [hd]
    by_cases hv : v = []
    · have : decide (v = []) = true := decide_eq_true hv
      rw [this, step_less k v _ _ ps[p] (.inl rfl), insL, if_pos hv]
      by_cases e : ps[p].1 = k <;> simp [e]
    · have : decide (v = []) = false := decide_eq_false hv
      rw [this, step_put k v _ ps[p] hl, insL, if_neg hv]
      by_cases e : ps[p].1 = k <;> simp [e]
  | m + 1, hm => by
    have hjl : p + 1 + m < ps.length := by omega
    have hk := keyAt_lt ps (p + 1 + m) hjl
    have hne : ps[p + 1 + m].1 ≠ k := by
      intro e
      have h1 := hr p (p + 1 + m) (by omega) hjl
      rw [hk, e] at h1
      have h2 := h.2.2 p (Nat.le_refl _) hp
      rw [h1] at h2
      cases h2
    have hs : skipN ps k p ≤ p + 1 + m := by unfold skipN; split <;> omega
    rw [show p + 1 + (m + 1) = p + 1 + m + 1 by omega, setFold_snoc k v ps (p + 1 + m) hjl, fold_behind ps k v p hr h hp m (by omega), step_less k v _ _ ps[p + 1 + m] (.inl rfl), if_neg hne, take_snocP ps (p + 1 + m) hjl, List.drop_append_of_le_length (by simp; omega)]
    simp
theorem setL_put (ps : List PairL) (k v : List UInt8) (p : Nat) (hr : rising ps) (h : placeIs ps k p) : setL ps k v = putL ps k v p := by
  by_cases hp : p < ps.length
  · have hf := fold_behind ps k v p hr h hp (ps.length - (p + 1)) (by omega)
    rw [show p + 1 + (ps.length - (p + 1)) = ps.length by omega, List.take_length] at hf
    rw [setL, hf]
    simp [putL]
  · have he : p = ps.length := by have := h.1; omega
    have hf := fold_ahead ps k v p h p (Nat.le_refl _)
    rw [he, List.take_length] at hf
    rw [setL, hf]
    have hs : skipN ps k ps.length = ps.length := by rw [skipN, if_neg (fun hh => by omega)]
    by_cases hv : v = []
    · simp [putL, insL, hv, hs, he]
    · simp [putL, insL, hv, hs, he]
end Go.Proofs.Ytgcaofedhhkacaa
