/-
  What a digest with a tag is, on lists of bytes.
-/
import Derived.Test.YtddjpfgkjijmoaaDoorMathSum
import Derived.Test.YtddjpfgkjijmoaaDoorMathAll
namespace Go.Proofs.YtddjpfgkjijmoaaDoor
open Go.RowKit
set_option linter.unusedVariables false

/-- The texts' items, one behind the other. -/
def textsB (ls : List (List UInt8)) : List UInt8 := (ls.map textB).flatten
/-- The list of texts. -/
def listB (ls : List (List UInt8)) : List UInt8 := wrapB (textsB ls) 192
/-- The digest with a tag, or nothing. -/
def tagL (tag : List UInt8) (ps : List (List UInt8)) : List UInt8 := if ps.length ≤ 1000 ∧ tag.length + ps.flatten.length ≤ 30000 then sumL (listB (tag :: ps)) else []

theorem tagL_yes (tag : List UInt8) (ps : List (List UInt8)) (h1 : ps.length ≤ 1000) (h2 : tag.length + ps.flatten.length ≤ 30000) : tagL tag ps = sumL (listB (tag :: ps)) := if_pos ⟨h1, h2⟩
theorem tagL_many (tag : List UInt8) (ps : List (List UInt8)) (h : 1000 < ps.length) : tagL tag ps = [] := if_neg fun hh => by omega
theorem tagL_long (tag : List UInt8) (ps : List (List UInt8)) (j : Nat) (h : 30000 < tag.length + (ps.take j).flatten.length) : tagL tag ps = [] := if_neg fun hh => by have := flat_le ps j; omega

theorem textsB_snoc (ls : List (List UInt8)) (l : List UInt8) : textsB (ls ++ [l]) = textsB ls ++ textB l := by simp [textsB]
theorem textsB_take (ls : List (List UInt8)) (j : Nat) (h : j < ls.length) : textsB (ls.take (j + 1)) = textsB (ls.take j) ++ textB ls[j] := by
  rw [List.take_succ_eq_append_getElem h, textsB_snoc]
theorem textsB_len (ls : List (List UInt8)) (h : ls.flatten.length < 65536) : (textsB ls).length ≤ ls.flatten.length + 3 * ls.length := by
  induction ls with
  | nil => simp [textsB]
  | cons x r ih =>
    rw [List.flatten_cons, List.length_append] at h
    have h1 := ih (by omega)
    have h2 := textB_len x (by omega)
    have e : textsB (x :: r) = textB x ++ textsB r := by simp [textsB]
    rw [e, List.length_append, List.flatten_cons, List.length_append, List.length_cons]
    omega
theorem textsB_part (ls : List (List UInt8)) (j : Nat) (h : ls.flatten.length < 65536) : (textsB (ls.take j)).length ≤ ls.flatten.length + 3 * ls.length := by
  have h1 := flat_le ls j
  have h2 := textsB_len (ls.take j) (by omega)
  have h3 : (ls.take j).length ≤ ls.length := by rw [List.length_take]; omega
  omega
theorem listB_len (ls : List (List UInt8)) (h : ls.flatten.length ≤ 30000) (hl : ls.length ≤ 1001) : (textsB ls).length ≤ 33003 ∧ (listB ls).length ≤ 33006 := by
  have h1 := textsB_len ls (by omega)
  have h2 := wrapB_len (textsB ls) 192 (by omega)
  unfold listB
  omega

theorem isItem_text (x : List UInt8) (h : x.length ≤ 60000) : isItemL (textB x) = true := by
  have := takeL_text_fore x [] h
  rw [List.append_nil] at this
  exact isItemL_yes _ _ _ this

/-- The program's way: the items first. -/
theorem listL_texts (ls : List (List UInt8)) (h : ls.flatten.length ≤ 30000) (hl : ls.length ≤ 1001) : listL (ls.map textB) = listB ls := by
  refine listL_yes _ (by have := (listB_len ls h hl).1; unfold textsB at this; omega) ?_
  rw [List.all_eq_true]
  intro y hy
  simp only [List.mem_map] at hy
  obtain ⟨x, hx, rfl⟩ := hy
  obtain ⟨j, hj, rfl⟩ := List.getElem_of_mem hx
  have := each_le ls j hj
  exact isItem_text _ (by omega)
end Go.Proofs.YtddjpfgkjijmoaaDoor
