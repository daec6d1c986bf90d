/-
 Numbers' texts, on lists: without noughts ahead.
-/
import Derived.Test.YthnddgdnialogaaGreatDoorMathAll
namespace Go.Proofs.YthnddgdnialogaaGreatDoor
open Go.RowKit
set_option linter.unusedVariables false
theorem bigB_succ (n k : Nat) : bigB n (k + 1) = bigB (n / 256) k ++ [UInt8.ofNat n] := by
 simp only [bigB, List.range_succ, List.map_append, List.map_cons, List.map_nil]
 have e : n / 2 ^ (8 * (k + 1 - 1 - k)) = n := by simp
 rw [e]
 congr 1
 refine List.map_congr_left fun j hj => ?_
 have hj' := List.mem_range.1 hj
 have e2 : 8 * (k + 1 - 1 - j) = 8 + 8 * (k - 1 - j) := by omega
 rw [e2, Nat.pow_add, ← Nat.div_div_eq_div_mul]
theorem dropZ_bigB : ∀ (k n : Nat), n < 256 ^ k → (bigB n k).dropWhile (· == 0) = numB k n
 | 0, n, h => rfl
 | k + 1, n, h => by
   have ih := dropZ_bigB k (n / 256) (by rw [Nat.pow_succ] at h; omega)
   rw [bigB_succ, List.dropWhile_append, ih]
   by_cases h0 : n = 0
   · subst h0
     simp [numB_zero]
   · rw [numB, if_neg h0]
     by_cases h1 : n / 256 = 0
     · rw [h1, numB_zero]
       have hb : UInt8.ofNat n ≠ 0 := fun e => by
        have := congrArg UInt8.toNat e
        simp at this
        omega
       simp [hb]
     · have hne : (numB k (n / 256)).isEmpty = false := by
        cases k with
        | zero => simp at h; omega
        | succ k => rw [numB, if_neg h1]; simp
       simp [hne]
theorem dropZ_zero (r : List UInt8) : (0 :: r).dropWhile (· == 0) = r.dropWhile (· == 0) := by simp
theorem dropZ_stop (a : UInt8) (r : List UInt8) (h : a ≠ 0) : (a :: r).dropWhile (· == 0) = a :: r := by simp [h]
theorem numB_len : ∀ (f n : Nat), (numB f n).length ≤ f
 | 0, n => by simp [numB]
 | f + 1, n => by
   rw [numB]
   split
   · simp
   · have := numB_len f (n / 256); simp; omega
end Go.Proofs.YthnddgdnialogaaGreatDoor
