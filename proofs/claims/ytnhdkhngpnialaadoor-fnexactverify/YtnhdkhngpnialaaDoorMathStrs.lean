/-
  Rows of strings; the decimal texts of the marks.
-/
import Derived.Test.YtnhdkhngpnialaaDoorMathWrap
import Derived.Maps.AppendAt
import Derived.Deep.Onto
namespace Go.Proofs.YtnhdkhngpnialaaDoor
open Go.RowKit
set_option linter.unusedVariables false

/-- The cells of a row of strings. -/
def scells (ls : List (List UInt8)) : List Value := ls.map fun l => .string ⟨l.toArray⟩

theorem scells_length (ls : List (List UInt8)) : (scells ls).length = ls.length := by simp [scells]

theorem scells_snoc (ls : List (List UInt8)) (l : List UInt8) : scells (ls ++ [l]) = scells ls ++ [.string ⟨l.toArray⟩] := by simp [scells]

/-- A row that is owned: nil, or a block of the call's own. -/
theorem own_cases {w : World} {base e n : Nat} {v : Value} {xs : List Value} (h : w.ownsRow base e 1 v n xs) :
    (v = .slice none 0 0 ∧ n = 0 ∧ xs = []) ∨ ∃ g cap, v = .slice (some ⟨g, 0, none⟩) n cap ∧ base ≤ g ∧ g < w.heap.size ∧ (∀ j, j < n → w.cell? ⟨g, j, none⟩ = xs[j]?) ∧ (∀ j, w.frozen? ⟨g, j, none⟩ = false) := by
  rcases h.2 with ⟨h', h0⟩ | ⟨g, cap, cur, h', hb, hg, _⟩
  · exact .inl ⟨h', h0, List.length_eq_zero_iff.1 (by rw [h.1, h0])⟩
  · subst h'
    exact .inr ⟨g, cap, rfl, hb, (Array.getElem?_eq_some_iff.1 hg).1, fun j hj => h.cellAt j (by omega), fun j => h.frozenAt j⟩

theorem own_slice {w : World} {base e n : Nat} {v : Value} {xs : List Value} (h : w.ownsRow base e 1 v n xs) : ∃ a m c, v = .slice a m c := by
  rcases h.2 with ⟨h', h0⟩ | ⟨g, cap, cur, h', _⟩
  · exact ⟨_, _, _, h'⟩
  · exact ⟨_, _, _, h'⟩

theorem hidOwn {w : World} {base e size n : Nat} {v : Value} {xs : List Value} (h : w.ownsRow base e size v n xs) : Hid (w.ownsRow base e size v n xs) := h

/-- How long a slice is. -/
def vlen : Value → Nat
  | .slice _ n _ => n
  | _ => 0

theorem own_vlen {w : World} {base e n : Nat} {v : Value} {xs : List Value} (h : w.ownsRow base e 1 v n xs) : vlen v = n := by
  rcases h.2 with ⟨h', h0⟩ | ⟨g, cap, cur, h', _⟩
  · subst h'; exact h0.symm
  · subst h'; rfl

theorem scells_at (ls : List (List UInt8)) (j : Nat) (h : j < ls.length) : (scells ls)[j]? = some (.string ⟨ls[j].toArray⟩) := by simp [scells, h]

/-- The digits of a number above 0; fuel ahead. -/
def decF : Nat → Nat → List UInt8
  | 0, _ => []
  | f + 1, n => if n = 0 then [] else decF f (n / 10) ++ [UInt8.ofNat (48 + n % 10)]

/-- The text of a mark. -/
def markT (n : Nat) : List UInt8 := 109 :: decF 20 n

theorem decF_zero (f : Nat) : decF f 0 = [] := by cases f <;> simp [decF]

theorem decF_step (f m : Nat) (h : m < 10 ^ (f + 1)) (h0 : 0 < m) : decF (f + 1) m = decF f (m / 10) ++ [UInt8.ofNat (48 + m % 10)] ∧ m / 10 < 10 ^ f := by
  rw [Nat.pow_succ] at h
  exact ⟨by rw [decF, if_neg (by omega)], by omega⟩

/-- So many marks from k on. -/
def marks (k n : Nat) : List (List UInt8) := (List.range n).map fun j => markT (k + j)

theorem marks_length (k n : Nat) : (marks k n).length = n := by simp [marks]

theorem marks_at (k n j : Nat) (h : j < n) : (marks k n)[j]? = some (markT (k + j)) := by simp [marks, h]

/-- The first j marks laid over a row. -/
def marked (k j : Nat) (ls : List (List UInt8)) : List (List UInt8) := marks k j ++ ls.drop j

theorem marked_zero (k : Nat) (ls : List (List UInt8)) : marked k 0 ls = ls := by simp [marked, marks]

theorem marked_all (k : Nat) (ls : List (List UInt8)) : marked k ls.length ls = marks k ls.length := by simp [marked]

theorem marked_length (k j : Nat) (ls : List (List UInt8)) (h : j ≤ ls.length) : (marked k j ls).length = ls.length := by simp [marked, marks]; omega

theorem marked_step (k j : Nat) (ls : List (List UInt8)) (h : j < ls.length) : (scells (marked k j ls)).set j (.string ⟨(markT (k + j)).toArray⟩) = scells (marked k (j + 1) ls) := by
  apply List.ext_getElem?
  intro i
  rw [List.getElem?_set]
  by_cases hij : j = i
  · subst hij
    have hl : j < (scells (marked k j ls)).length := by rw [scells_length, marked_length k j ls (by omega)]; exact h
    rw [if_pos rfl, if_pos hl]
    simp only [scells, marked, marks, List.getElem?_map]
    rw [List.getElem?_append_left (by simp)]
    simp
  · simp only [if_neg hij, scells, marked, marks, List.getElem?_map]
    congr 1
    by_cases hi : i < j
    · rw [List.getElem?_append_left (by simpa using hi), List.getElem?_append_left (by simp; omega)]
      simp [hi, show i < j + 1 from by omega]
    · rw [List.getElem?_append_right (by simpa using Nat.le_of_not_lt hi), List.getElem?_append_right (by simp; omega)]
      simp only [List.length_map, List.length_range, List.getElem?_drop]
      congr 1
      omega

end Go.Proofs.YtnhdkhngpnialaaDoor
