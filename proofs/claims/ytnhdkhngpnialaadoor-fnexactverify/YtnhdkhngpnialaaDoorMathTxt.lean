/-
  What the item of a text is.
-/
import Derived.Test.YtnhdkhngpnialaaDoorMathWrap
namespace Go.Proofs.YtnhdkhngpnialaaDoor
open Go.RowKit

/-- The item of a text, however long. -/
def textB (l : List UInt8) : List UInt8 := match l with
  | [b] => if b.toNat < 128 then [b] else wrapB [b] 128
  | l => wrapB l 128

/-- The item of a text, or nothing where it is too long. -/
def rlpText (l : List UInt8) : List UInt8 := if l.length ≤ 60000 then textB l else []

theorem textB_one (s : ByteArray) (h : s.size = 1) (hb : (s[0]'(by omega)).toNat < 128) : textB s.data.toList = s.data.toList := by
  have e : s.data.toList = [s[0]'(by omega)] := by
    apply List.ext_getElem
    · simpa using h
    · intro i h1 h2
      simp at h2; subst h2; rfl
  rw [e, textB, if_pos hb]

theorem textB_head (s : ByteArray) (h : s.size = 1) (hb : ¬ (s[0]'(by omega)).toNat < 128) : textB s.data.toList = wrapB s.data.toList 128 := by
  have e : s.data.toList = [s[0]'(by omega)] := by
    apply List.ext_getElem
    · simpa using h
    · intro i h1 h2
      simp at h2; subst h2; rfl
  rw [e, textB, if_neg hb]

theorem textB_more (l : List UInt8) (h : l.length ≠ 1) : textB l = wrapB l 128 := by
  match l, h with
  | [], _ => rfl
  | [_], h => simp at h
  | _ :: _ :: _, _ => rfl

end Go.Proofs.YtnhdkhngpnialaaDoor
