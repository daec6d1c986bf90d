/-
  What RlpList answers, as a function on lists of texts.
-/
import Derived.Test.YtnhdkhngpnialaaDoorMathItems
import Derived.Lib.Join
namespace Go.Proofs.YtnhdkhngpnialaaDoor
open Go.RowKit
set_option linter.unusedVariables false

/-- A text is one item, nothing behind it. -/
def isItemL (l : List UInt8) : Bool := match takeL l with
  | some (_, _, []) => true
  | _ => false

theorem isItemL_yes (l : List UInt8) (k : Nat) (bd : List UInt8) (h : takeL l = some (k, bd, [])) : isItemL l = true := by simp only [isItemL, h]
theorem isItemL_none (l : List UInt8) (h : takeL l = none) : isItemL l = false := by simp only [isItemL, h]
theorem isItemL_more (l : List UInt8) (k : Nat) (bd : List UInt8) (a : UInt8) (r : List UInt8) (h : takeL l = some (k, bd, a :: r)) : isItemL l = false := by simp only [isItemL, h]

theorem flat_snoc (ls : List (List UInt8)) (j : Nat) (h : j < ls.length) : (ls.take (j + 1)).flatten = (ls.take j).flatten ++ ls[j] := by
  rw [List.take_succ_eq_append_getElem h, List.flatten_append]
  congr 1
  exact List.append_nil _

theorem flat_le (ls : List (List UInt8)) (j : Nat) : (ls.take j).flatten.length ≤ ls.flatten.length := by
  have : ls.flatten = (ls.take j).flatten ++ (ls.drop j).flatten := by rw [← List.flatten_append, List.take_append_drop]
  rw [this]; simp

theorem each_le (ls : List (List UInt8)) (j : Nat) (h : j < ls.length) : ls[j].length ≤ ls.flatten.length := by
  have := flat_le ls (j + 1)
  rw [flat_snoc ls j h, List.length_append] at this
  omega

/-- The item of a list of items, or nothing. -/
def listL (ls : List (List UInt8)) : List UInt8 := if ls.flatten.length ≤ 60000 ∧ ls.all isItemL = true then wrapB ls.flatten 192 else []

theorem listL_yes (ls : List (List UInt8)) (h : ls.flatten.length ≤ 60000) (hi : ls.all isItemL = true) : listL ls = wrapB ls.flatten 192 := if_pos ⟨h, hi⟩
theorem listL_long (ls : List (List UInt8)) (j : Nat) (h : 60000 < (ls.take j).flatten.length) : listL ls = [] := if_neg fun hh => by have := flat_le ls j; omega
theorem listL_item (ls : List (List UInt8)) (j : Nat) (hj : j < ls.length) (h : isItemL ls[j] = false) : listL ls = [] := if_neg fun hh => by
  have := List.all_eq_true.1 hh.2 ls[j] (List.getElem_mem _)
  rw [h] at this; cases this

theorem all_snoc (ls : List (List UInt8)) (j : Nat) (h : j < ls.length) (h0 : (ls.take j).all isItemL = true) (h1 : isItemL ls[j] = true) : (ls.take (j + 1)).all isItemL = true := by
  rw [List.take_succ_eq_append_getElem h, List.all_append, h0]; simp [h1]

theorem ba_apps (a b : List UInt8) : ByteArray.mk a.toArray ++ ByteArray.mk b.toArray = ⟨(a ++ b).toArray⟩ := by
  apply ByteArray.ext; simp

theorem join_nil (ls : List (List UInt8)) : Lib.join ls [] = ls.flatten := by
  unfold Lib.join
  induction ls with
  | nil => rfl
  | cons a r ih => cases r with
    | nil => simp [List.intercalate]
    | cons b r => simp [List.intercalate, List.intersperse] at ih ⊢; exact ih

/-- The first j texts laid, the others still empty. -/
def laid (ls : List (List UInt8)) (j : Nat) : List Value := scells (ls.take j) ++ List.replicate (ls.length - j) (.string ⟨#[]⟩)

theorem laid_length (ls : List (List UInt8)) (j : Nat) (h : j ≤ ls.length) : (laid ls j).length = ls.length := by simp [laid, scells]; omega

theorem laid_all (ls : List (List UInt8)) : laid ls ls.length = scells ls := by simp [laid]

theorem laid_step (ls : List (List UInt8)) (j : Nat) (h : j < ls.length) : (laid ls j).set j (.string ⟨ls[j].toArray⟩) = laid ls (j + 1) := by
  apply List.ext_getElem?
  intro i
  rw [List.getElem?_set]
  by_cases hij : j = i
  · subst hij
    rw [if_pos rfl, if_pos (by rw [laid_length ls j (by omega)]; exact h)]
    unfold laid
    rw [List.getElem?_append_left (by rw [scells_length]; simp; omega), scells, List.getElem?_map, List.getElem?_take, if_pos (by omega), List.getElem?_eq_getElem h]
    rfl
  · rw [if_neg hij]
    unfold laid
    by_cases hi : i < j
    · rw [List.getElem?_append_left (by rw [scells_length]; simp; omega), List.getElem?_append_left (by rw [scells_length]; simp; omega)]
      simp only [scells, List.getElem?_map, List.getElem?_take]
      rw [if_pos hi, if_pos (by omega)]
    · rw [List.getElem?_append_right (by rw [scells_length]; simp; omega), List.getElem?_append_right (by rw [scells_length]; simp; omega)]
      simp only [scells_length, List.length_take, List.getElem?_replicate]
      congr 1
      simp only [eq_iff_iff]
      omega

end Go.Proofs.YtnhdkhngpnialaaDoor
