/-
 Numbers' texts, on lists: without noughts ahead; back again. What a batch's texts are.
-/
import Derived.Test.YthnddgdnialogaaGreatDoorMathZ
import Derived.Test.YthnddgdnialogaaGreatDoorMathOp
import Derived.Test.YthnddgdnialogaaGreatDoorMath2
namespace Go.Proofs.YthnddgdnialogaaGreatDoor
open Go.RowKit
set_option linter.unusedVariables false
def pairTs (ps : List PairL) : List (List UInt8) := ps.flatMap fun p => [p.1, p.2]
theorem pairTs_snoc (ps : List PairL) (p : PairL) : pairTs (ps ++ [p]) = pairTs ps ++ [p.1, p.2] := by simp [pairTs]
theorem pairTs_length (ps : List PairL) : (pairTs ps).length = 2 * ps.length := by
 induction ps with
 | nil => rfl
 | cons p ps ih => simp only [pairTs, List.flatMap_cons, List.length_append, List.length_cons, List.length_nil] at ih ⊢; omega
theorem numOk_nat (c : Int) (h : numOk c = true) : c = (c.toNat : Int) ∧ c.toNat ≤ 1000000000000 := by
 simp only [numOk, decide_eq_true_eq] at h
 omega
end Go.Proofs.YthnddgdnialogaaGreatDoor
