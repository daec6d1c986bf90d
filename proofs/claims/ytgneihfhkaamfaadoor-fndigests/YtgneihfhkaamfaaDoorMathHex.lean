/-
  Hexadecimal digits.
-/
import Derived.Test.YtgneihfhkaamfaaDoorMath
namespace Go.Proofs.YtgneihfhkaamfaaDoor
open Go.RowKit

/-- A digit 0 .. 9, a .. f. -/
def hexd (c : UInt8) : UInt8 := if c.toNat < 10 then 48 + c else 87 + c

def hexs (l : List UInt8) : List UInt8 := l.flatMap fun b => [hexd (b / 16), hexd (b % 16)]

/-- The sixteen digits, as the text has them. -/
abbrev hexTab : ByteArray := { data := #[48, 49, 50, 51, 52, 53, 54, 55, 56, 57, 97, 98, 99, 100, 101, 102] }

theorem hexs_snoc (s : ByteArray) (k : Nat) (h : k < s.size) : hexs (s.data.toList.take (k + 1)) = hexs (s.data.toList.take k) ++ [hexd (s[k] / 16), hexd (s[k] % 16)] := by
  rw [take_snoc s k h]; simp [hexs]

theorem hexs_length (l : List UInt8) : (hexs l).length = 2 * l.length := by
  induction l with
  | nil => rfl
  | cons a l ih => simp only [hexs, List.flatMap_cons, List.length_append, List.length_cons, List.length_nil] at ih ⊢; omega

theorem hexTab_all : ∀ n : Fin 16, hexTab[n.val]'(by have := n.isLt; show n.val < 16; omega) = hexd (UInt8.ofNat n.val) := by decide +kernel

theorem hexTab_at (c : UInt8) (h : c.toNat < 16) : hexTab[c.toNat]'(by show c.toNat < 16; omega) = hexd c := by
  have := hexTab_all ⟨c.toNat, h⟩
  simpa using this

end Go.Proofs.YtgneihfhkaamfaaDoor
