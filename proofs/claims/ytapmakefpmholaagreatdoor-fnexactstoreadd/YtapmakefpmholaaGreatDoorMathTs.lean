/-
  The texts of a list of texts, on lists of bytes.
-/
import Derived.Test.YtapmakefpmholaaGreatDoorINodes
import Derived.Test.YtapmakefpmholaaGreatDoorMathBackL
namespace Go.Proofs.YtapmakefpmholaaGreatDoor
open Go.RowKit
set_option linter.unusedVariables false

/-- The text that an item begins with. -/
def textOf (l : List UInt8) : Option (List UInt8) := match takeL l with
  | some (1, b, _) => some b
  | _ => none
def textsF : List (List UInt8) → Option (List (List UInt8))
  | [] => some []
  | l :: r => match textOf l with
    | none => none
    | some t => (textsF r).map (t :: ·)
/-- The texts of a list of texts. -/
def textsL (s : List UInt8) : Option (List (List UInt8)) := match itemsL s with
  | none => none
  | some ls => textsF ls

theorem textOf_some (l b rest : List UInt8) (h : takeL l = some (1, b, rest)) : textOf l = some b := by simp only [textOf, h]
theorem textOf_none (l : List UInt8) (h : takeL l = none) : textOf l = none := by simp only [textOf, h]
theorem textOf_list (l b rest : List UInt8) (h : takeL l = some (2, b, rest)) : textOf l = none := by simp only [textOf, h]
theorem textsF_none (ls : List (List UInt8)) (j : Nat) (hj : j < ls.length) (h : textOf ls[j] = none) : textsF ls = none := by
  induction ls generalizing j with
  | nil => simp at hj
  | cons l r ih =>
    cases j with
    | zero =>
      simp only [List.getElem_cons_zero] at h
      simp only [textsF, h]
    | succ j =>
      simp only [List.getElem_cons_succ] at h
      have := ih j (by simpa using hj) h
      simp only [textsF, this]
      cases textOf l <;> rfl
theorem textsF_snoc (ls : List (List UInt8)) (l t : List UInt8) (ts : List (List UInt8)) (h1 : textsF ls = some ts) (h2 : textOf l = some t) : textsF (ls ++ [l]) = some (ts ++ [t]) := by
  induction ls generalizing ts with
  | nil =>
    simp only [textsF, Option.some.injEq] at h1
    subst h1
    simp [textsF, h2]
  | cons x r ih =>
    simp only [textsF] at h1
    cases hx : textOf x with
    | none => rw [hx] at h1; cases h1
    | some y =>
      rw [hx] at h1
      cases hr : textsF r with
      | none => rw [hr] at h1; cases h1
      | some us =>
        rw [hr] at h1
        simp at h1
        subst h1
        simp [textsF, hx, ih us hr]
theorem textsF_take (ls : List (List UInt8)) (j : Nat) (hj : j < ls.length) (t : List UInt8) (ts : List (List UInt8)) (h1 : textsF (ls.take j) = some ts) (h2 : textOf ls[j] = some t) : textsF (ls.take (j + 1)) = some (ts ++ [t]) := by
  rw [List.take_succ_eq_append_getElem hj]
  exact textsF_snoc _ _ _ _ h1 h2
theorem textsF_each : ∀ (ls ts : List (List UInt8)), textsF ls = some ts → ts.length = ls.length ∧ (∀ t ∈ ts, t.length ≤ 60000) ∧ ts.flatten.length ≤ ls.flatten.length
  | [], ts, h => by
    simp only [textsF, Option.some.injEq] at h
    subst h
    simp
  | l :: r, ts, h => by
    simp only [textsF] at h
    cases hx : textOf l with
    | none => rw [hx] at h; cases h
    | some y =>
      rw [hx] at h
      cases hr : textsF r with
      | none => rw [hr] at h; cases h
      | some us =>
        rw [hr] at h
        simp at h
        subst h
        obtain ⟨i1, i2, i3⟩ := textsF_each r us hr
        obtain ⟨rest, ht⟩ : ∃ rest, takeL l = some (1, y, rest) := by
          unfold textOf at hx
          split at hx
          · rename_i b rest h'; cases hx; exact ⟨_, h'⟩
          · cases hx
        have hl := (takeL_text_back l y rest ht).2
        have hl2 := (takeL_less l 1 y rest ht).2
        refine ⟨by simp [i1], fun t ht => ?_, ?_⟩
        · rcases List.mem_cons.1 ht with rfl | h
          · exact hl
          · exact i2 t h
        · rw [List.flatten_cons, List.length_append, List.flatten_cons, List.length_append]; omega
theorem textsL_each (s : List UInt8) (ts : List (List UInt8)) (h : textsL s = some ts) : ts.length ≤ s.length ∧ (∀ t ∈ ts, t.length ≤ 60000) := by
  unfold textsL at h
  cases hi : itemsL s with
  | none => rw [hi] at h; cases h
  | some ls =>
    rw [hi] at h
    obtain ⟨h1, h2, _⟩ := textsF_each ls ts h
    have := items_num s ls hi
    exact ⟨by omega, h2⟩
end Go.Proofs.YtapmakefpmholaaGreatDoor
