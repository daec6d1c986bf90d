/-
  Stores, on lists: whether one is right; what a map of its nodes reads as.
-/
import Derived.Test.YtjlkeoocddianaaDoorMathRN
import Derived.Test.YtjlkeoocddianaaDoorMath2
import Derived.Test.YtjlkeoocddianaaDoorPairOk
import Derived.Test.YtjlkeoocddianaaDoorKeyH
namespace Go.Proofs.YtjlkeoocddianaaDoor
open Go.RowKit
set_option linter.unusedVariables false

def stOk (ps : List PairL) (j : Nat) : Bool := (readNode (valAt ps j)).isSome && (sumL (valAt ps j) == keyAt ps j) && (decide (j = 0) || Op.bytesLess (keyAt ps (j - 1)) (keyAt ps j))
def storeOkL (ps : List PairL) : Bool := decide (ps.length ≤ 400) && (List.range ps.length).all (stOk ps)
theorem storeOk_big (ps : List PairL) (h : ¬ ps.length ≤ 400) : storeOkL ps = false := by simp [storeOkL, h]
theorem storeOk_bad (ps : List PairL) (j : Nat) (h : j < ps.length) (hb : stOk ps j = false) : storeOkL ps = false := by
  have : (List.range ps.length).all (stOk ps) = false := by
    rw [List.all_eq_false]
    exact ⟨j, List.mem_range.2 h, by simp [hb]⟩
  simp [storeOkL, this]
theorem storeOk_all (ps : List PairL) (h400 : ps.length ≤ 400) (h : ∀ j, j < ps.length → stOk ps j = true) : storeOkL ps = true := by
  simp only [storeOkL, Bool.and_eq_true, decide_eq_true_eq, List.all_eq_true, List.mem_range]
  exact ⟨h400, h⟩
/-- How an element of the map of nodes reads: as its text. -/
def hnR (v : Value) : Option (DataW Unit × List MemPlace) := match v with
  | .agg cs => (match (cs[0]? : Option Value) with
    | some (Value.string s) => some (.lit (.string s.data.toList), [])
    | _ => none)
  | _ => none
theorem hnR_is (t : List UInt8) (a b c d : Value) : hnR (.agg #[.string ⟨t.toArray⟩, a, b, c, d]) = some (.lit (.string t), []) := by simp [hnR]
/-- What the map of these nodes reads as. -/
def datL (ps : List PairL) : DataW Unit := ps.foldl (fun D p => D.put (keyLit p.1) (.lit (.string p.2))) (.map [])
theorem datL_take (ps : List PairL) (j : Nat) (h : j < ps.length) : datL (ps.take (j + 1)) = (datL (ps.take j)).put (keyLit (keyAt ps j)) (.lit (.string (valAt ps j))) := by
  rw [take_snocP ps j h, keyAt_lt ps j h, valAt_lt ps j h]
  simp only [datL, List.foldl_append, List.foldl_cons, List.foldl_nil]
end Go.Proofs.YtjlkeoocddianaaDoor
