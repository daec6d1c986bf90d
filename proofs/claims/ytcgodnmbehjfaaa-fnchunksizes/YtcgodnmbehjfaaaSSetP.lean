
/-
  What stands in pairs with another value for a key; the model's SetPair.
-/
import Derived.Test.YtcgodnmbehjfaaaSSet
namespace Go.Proofs.Ytcgodnmbehjfaaa
open Go.RowKit
set_option linter.unusedVariables false

theorem setStep_mem (k v : List UInt8) (st : List PairL × Bool) (p q : PairL) (h : q ∈ (setStep k v st p).1) : q ∈ st.1 ∨ q = (k, v) ∨ q = p := by
  unfold setStep at h
  split at h
  · split at h
    · simp at h; rcases h with h | h
      · exact .inl h
      · exact .inr (.inl h)
    · simp at h; rcases h with h | h | h
      · exact .inl h
      · exact .inr (.inl h)
      · exact .inr (.inr h)
  · split at h
    · exact .inl h
    · simp at h; rcases h with h | h
      · exact .inl h
      · exact .inr (.inr h)
theorem setFold_mem (k v : List UInt8) : ∀ (ps : List PairL) (st : List PairL × Bool) (q : PairL), q ∈ (ps.foldl (setStep k v) st).1 → q ∈ st.1 ∨ q = (k, v) ∨ q ∈ ps
  | [], st, q, h => .inl h
  | p :: ps, st, q, h => by
    rcases setFold_mem k v ps (setStep k v st p) q h with h | h | h
    · rcases setStep_mem k v st p q h with h | h | h
      · exact .inl h
      · exact .inr (.inl h)
      · exact .inr (.inr (by rw [h]; simp))
    · exact .inr (.inl h)
    · exact .inr (.inr (List.mem_cons_of_mem _ h))
theorem setL_mem (ps : List PairL) (k v : List UInt8) (q : PairL) (h : q ∈ setL ps k v) : q = (k, v) ∨ q ∈ ps := by
  unfold setL at h
  split at h
  · rcases setFold_mem k v ps _ q h with h | h | h
    · simp at h
    · exact .inl h
    · exact .inr h
  · rw [List.mem_append] at h
    rcases h with h | h
    · rcases setFold_mem k v ps _ q h with h | h | h
      · simp at h
      · exact .inl h
      · exact .inr h
    · simp at h; exact .inl h
/-- What SetPair answers: pairs, and whether they are right. -/
def setOk (ps : List PairL) (k v : List UInt8) : Bool := pairsOkL ps && pairsOkL (setL ps k v)
def setR (ps : List PairL) (k v : List UInt8) : List PairL := if setOk ps k v = true then setL ps k v else []

end Go.Proofs.Ytcgodnmbehjfaaa
